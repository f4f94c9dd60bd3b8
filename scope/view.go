package scope

import (
	"accesscontrol/api"
)

// view is what is visible to a statement: in how many of the scopes around it each symbol is, and each permission.
type view struct {
	symbols map[key]int
	perms   map[permission]int
}

func newView() view {
	return view{symbols: map[key]int{}, perms: map[permission]int{}}
}

// count changes the number of scopes in which symbols are.
func (v view) count(l []api.Symbol, by int) {
	for _, s := range l {
		k := keyOf(s)
		v.symbols[k] += by
		for _, name := range s.Perms {
			v.perms[permission{k, name}] += by
		}
	}
}

func (v view) has(k key) bool { return v.symbols[k] > 0 }

// sees reports whether a symbol is visible, declared or required.
func (v view) sees(kind int, name string) bool {
	return v.has(key{kind, name, false}) || v.has(key{kind, name, true})
}

// examine returns the first fault of statements that are a scope of their own within what is visible.
func (v view) examine(l []api.Stmt) api.Fault {
	symbols, f := Block(l)
	if f.Code != api.OK {
		return f
	}
	for _, s := range symbols {
		if f = clash(s, v.has); f.Code != api.OK {
			return f
		}
	}
	v.count(symbols, 1)
	for i := range l {
		if f = v.examineOne(l[i : i+1]); f.Code != api.OK {
			return f
		}
	}
	v.count(symbols, -1)
	return api.Fault{}
}

// examineOne examines the only statement of a list.
func (v view) examineOne(l []api.Stmt) api.Fault {
	s := &l[0]
	if s.Kind != api.StmtOptional {
		return v.examineUses(l)
	}
	if f := v.examine(s.Then); f.Code != api.OK {
		return f
	}
	return v.examine(s.Else)
}

// examineUses returns the fault of the first use that has one. Of each class it gathers the first permission that is not visible: all permissions of all classes may be many more than the statement has names.
func (v view) examineUses(l []api.Stmt) api.Fault {
	t := newTable()
	for use := range used(l) {
		use.Perms = v.firstHidden(use)
		t.add(use)
	}
	for _, use := range t.symbols {
		if f := v.faultOf(use); f.Code != api.OK {
			return f
		}
	}
	return api.Fault{}
}

// firstHidden returns the first permission of a use that is not visible, if there is one.
func (v view) firstHidden(use api.Symbol) []string {
	declared, required := key{use.Kind, use.Name, false}, key{use.Kind, use.Name, true}
	for i, name := range use.Perms {
		if v.perms[permission{declared, name}] == 0 && v.perms[permission{required, name}] == 0 {
			return use.Perms[i : i+1]
		}
	}
	return nil
}

// faultOf returns the fault of a use whose Perms are not visible.
func (v view) faultOf(use api.Symbol) api.Fault {
	visible := v.sees(use.Kind, use.Name) || use.Kind == anyType && (v.sees(api.SymType, use.Name) || v.sees(api.SymAttribute, use.Name))
	switch {
	case !visible && v.sees(rival(use.Kind), use.Name):
		return api.Fault{Code: api.ErrKind, Pos: use.Pos, Name: use.Name}
	case !visible:
		return api.Fault{Code: api.ErrScope, Pos: use.Pos, Name: use.Name}
	case len(use.Perms) > 0:
		return api.Fault{Code: api.ErrPerm, Pos: use.Pos, Name: use.Perms[0]}
	}
	return api.Fault{}
}
