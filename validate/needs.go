package validate

import "accesscontrol/api"

// The classes of processes and of what the kernel knows of objects; anyClass stands for the class of the object.
const (
	processClass = "process"
	fileClass    = "file"
	dirClass     = "dir"
	anyClass     = "*"
)

// The permissions.
const (
	fork          = "fork"
	transition    = "transition"
	ownTransition = "dyntransition"
	send          = "send"
	read          = "read"
	write         = "write"
	create        = "create"
	unlink        = "unlink"
	execute       = "execute"
	entrypoint    = "entrypoint"
	add           = "add"
	remove        = "remove"
	relabelFrom   = "relabelfrom"
	relabelTo     = "relabelto"
)

// Needs returns the permissions that an operation needs, by class and name: pairs of what is asked of which of its contexts.
func Needs(op int) []api.FlowPerm {
	switch op {
	case api.OpFork:
		return []api.FlowPerm{{Class: processClass, Perm: fork}}
	case api.OpExec:
		return []api.FlowPerm{{Class: fileClass, Perm: execute}, {Class: processClass, Perm: transition}, {Class: fileClass, Perm: entrypoint}}
	case api.OpSetCon:
		return []api.FlowPerm{{Class: processClass, Perm: ownTransition}}
	case api.OpRead:
		return []api.FlowPerm{{Class: anyClass, Perm: read, Read: true}}
	case api.OpWrite:
		return []api.FlowPerm{{Class: anyClass, Perm: write, Write: true}}
	case api.OpCreate:
		return []api.FlowPerm{{Class: dirClass, Perm: add}, {Class: anyClass, Perm: create}}
	case api.OpRemove:
		return []api.FlowPerm{{Class: dirClass, Perm: remove}, {Class: anyClass, Perm: unlink}}
	case api.OpRelabel, api.OpRestore:
		return []api.FlowPerm{{Class: anyClass, Perm: relabelFrom}, {Class: anyClass, Perm: relabelTo}}
	case api.OpSend:
		return []api.FlowPerm{{Class: processClass, Perm: send, Write: true}}
	}
	return nil
}
