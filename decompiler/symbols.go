package decompiler

import (
	"slices"

	"accesscontrol/api"
)

// symbols returns the declarations of all symbols. Attributes stand in front of the types that have them.
func (d decompiler) symbols() ([]api.Stmt, api.Errno) {
	var l []api.Stmt
	for _, c := range d.policy.Classes {
		l = append(l, api.Stmt{Kind: api.StmtClass, Name: c.Name, List: slices.Clone(c.Perms)})
	}
	for _, a := range d.policy.Attrs {
		l = append(l, api.Stmt{Kind: api.StmtAttribute, Name: a.Name})
	}
	l = append(l, d.typeSymbols()...)
	for _, name := range d.policy.Sens {
		l = append(l, api.Stmt{Kind: api.StmtSensitivity, Name: name})
	}
	for _, name := range d.policy.Cats {
		l = append(l, api.Stmt{Kind: api.StmtCategory, Name: name})
	}
	for _, b := range d.policy.Bools {
		l = append(l, api.Stmt{Kind: api.StmtBool, Name: b.Name, Value: b.Value})
	}
	for n, r := range d.policy.Roles {
		if n > 0 {
			l = append(l, api.Stmt{Kind: api.StmtRole, Name: r.Name, Source: d.types(r.Types)})
		}
	}
	for _, u := range d.policy.Users {
		s := d.user(u)
		if len(s.List) == 0 {
			return nil, api.ErrArg
		}
		l = append(l, s)
	}
	return l, api.OK
}

func (d decompiler) typeSymbols() []api.Stmt {
	attributes := d.attributesOfTypes()
	var l []api.Stmt
	for _, t := range d.policy.Types {
		l = append(l, api.Stmt{Kind: api.StmtType, Name: t.Name, Aliases: slices.Clone(t.Aliases), List: attributes[t.Name]})
	}
	return l
}

// attributesOfTypes returns, for the name of a type, the names of the attributes that have it.
func (d decompiler) attributesOfTypes() map[string][]string {
	l := map[string][]string{}
	for _, a := range d.policy.Attrs {
		for _, name := range d.types(a.Types).Names {
			l[name] = append(l[name], a.Name)
		}
	}
	return l
}

func (d decompiler) user(u api.User) api.Stmt {
	return api.Stmt{Kind: api.StmtUser, Name: u.Name, List: d.roles(u.Roles).Names, Level: d.level(u.Default), Range: d.levels(u.Range)}
}
