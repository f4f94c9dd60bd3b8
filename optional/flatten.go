package optional

import (
	"slices"

	"accesscontrol/api"
)

// flattener gathers the statements of a module without its blocks. enabled are the blocks that are not reached yet.
type flattener struct {
	enabled []bool
	stmts   []api.Stmt
}

// add adds statements, with those of the enabled parts in place of blocks.
func (f *flattener) add(l []api.Stmt) {
	for i := range l {
		s := &l[i]
		if s.Kind != api.StmtOptional {
			f.stmts = append(f.stmts, cloneAll(l[i:i+1])...)
			continue
		}
		first := f.enabled[0]
		f.skip(1)
		if first {
			f.add(s.Then)
			f.skip(countBlocks(s.Else))
		} else {
			f.skip(countBlocks(s.Then))
			f.add(s.Else)
		}
	}
}

// skip goes past so many blocks.
func (f *flattener) skip(blocks int) {
	f.enabled = f.enabled[blocks:]
}

// cloneAll returns statements in memory of their own. It changes copies in place: nested statements may have many levels, and copies of them would stay on the stack.
func cloneAll(l []api.Stmt) []api.Stmt {
	l = slices.Clone(l)
	for i := range l {
		s := &l[i]
		s.List, s.Aliases = slices.Clone(s.List), slices.Clone(s.Aliases)
		for _, n := range []*api.NameSet{&s.Source, &s.Target, &s.Class, &s.Perms} {
			n.Names, n.Except = slices.Clone(n.Names), slices.Clone(n.Except)
		}
		for _, level := range []*api.LevelText{&s.Level, &s.Range.Low, &s.Range.High, &s.Context.Range.Low, &s.Context.Range.High} {
			level.Cats = slices.Clone(level.Cats)
		}
		detach(&s.Cond)
		s.Then, s.Else = cloneAll(s.Then), cloneAll(s.Else)
	}
	return l
}

// detach gives an expression memory of its own.
func detach(e *api.Expr) {
	e.Names, e.Kids = slices.Clone(e.Names), slices.Clone(e.Kids)
	for i := range e.Kids {
		detach(&e.Kids[i])
	}
}
