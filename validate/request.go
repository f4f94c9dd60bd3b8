package validate

import (
	"accesscontrol/api"
	"accesscontrol/constraint"
	"accesscontrol/context"
	"accesscontrol/decide"
	"accesscontrol/newlabel"
)

// request is what a process asks of a policy in a state.
type request struct {
	policy  *api.Policy
	state   []bool
	subject api.Context
}

// access is one permission that a check is about.
type access struct {
	subject, object api.Context
	class, perm     string
}

func (r *request) relabel(old, new api.Context, class int) error {
	if err := r.checkContexts(r.subject, old, new); err != nil {
		return err
	}
	name, err := r.className(class)
	if err != nil {
		return err
	}
	if err := r.check(access{r.subject, old, name, relabelFrom}, access{r.subject, new, name, relabelTo}); err != nil {
		return err
	}
	if ok, _ := constraint.Valid(*r.policy, class, old, new, r.subject); !ok {
		return errDenied
	}
	return nil
}

func (r *request) exec(file api.Context) (api.Context, error) {
	if err := r.checkContexts(r.subject, file); err != nil {
		return api.Context{}, err
	}
	if err := r.check(access{r.subject, file, fileClass, execute}); err != nil {
		return api.Context{}, err
	}
	c, code := newlabel.Process(*r.policy, r.state, r.subject, file)
	if err := failure(code); err != nil || context.Same(c, r.subject) {
		return c, err
	}
	if err := r.check(access{r.subject, c, processClass, transition}); err != nil {
		return api.Context{}, err
	}
	return c, r.check(access{c, file, fileClass, entrypoint})
}

func (r *request) setCon(new api.Context) error {
	if err := r.checkContexts(r.subject, new); err != nil {
		return err
	}
	return r.check(access{r.subject, new, processClass, ownTransition})
}

func (r *request) create(dir api.Context, class int, name string) (api.Context, error) {
	if err := r.checkContexts(r.subject, dir); err != nil {
		return api.Context{}, err
	}
	kind, err := r.className(class)
	if err != nil {
		return api.Context{}, err
	}
	if err := r.check(access{r.subject, dir, dirClass, add}); err != nil {
		return api.Context{}, err
	}
	c, code := newlabel.Object(*r.policy, r.state, r.subject, dir, class, name)
	if err := failure(code); err != nil {
		return api.Context{}, err
	}
	return c, r.check(access{r.subject, c, kind, create})
}

// checkContexts returns the failure of contexts of which one is not valid.
func (r *request) checkContexts(l ...api.Context) error {
	for _, c := range l {
		if context.Check(*r.policy, c) != api.OK {
			return errContext
		}
	}
	return nil
}

// className returns the name of the class with a number.
func (r *request) className(class int) (string, error) {
	if class < 0 || class >= len(r.policy.Classes) {
		return "", errClass
	}
	return r.policy.Classes[class].Name, nil
}

// check returns the failure of accesses of one class, all of which have to be granted.
func (r *request) check(l ...access) error {
	granted, denied := true, uint32(0)
	for _, a := range l {
		if !decide.May(*r.policy, r.state, a.subject, a.object, a.class, a.perm) {
			granted = false
			denied |= r.permOf(a)
		}
	}
	if granted {
		return nil
	}
	return denial{errDenied, denied}
}

// permOf returns the access vector of the permission that an access is about; no permission if the policy does not have it.
func (r *request) permOf(a access) uint32 {
	class, ok := decide.Class(*r.policy, a.class)
	if !ok {
		return 0
	}
	perm, ok := decide.Perm(*r.policy, class, a.perm)
	if !ok {
		return 0
	}
	return 1 << perm
}
