package compiler

import (
	"accesscontrol/api"
	"accesscontrol/conflict"
	"accesscontrol/expand"
	"accesscontrol/linker"
	"accesscontrol/modcheck"
	"accesscontrol/optional"
	"accesscontrol/syntax"
)

// noModule is the number of the source or module that a fault concerns if it concerns none, or if there is none.
const noModule = -1

// build makes modules of sources, and a policy of modules.
type build struct {
	sources []string
	modules []api.Module
	policy  api.Policy
	failure
}

// failure is a fault, and the number of the source or module that it concerns.
type failure struct {
	at    int
	fault api.Fault
}

// The passes of a build, in their order.
const (
	countSources = iota
	readSources
	countModules
	flattenModules
	compareModules
	linkModules
	comparePolicy
	findForbidden
)

// passOf returns what a pass does.
func passOf(n int) func(*build) failure {
	switch n {
	case countSources:
		return (*build).countSources
	case readSources:
		return (*build).readSources
	case countModules:
		return (*build).countModules
	case flattenModules:
		return (*build).flattenModules
	case compareModules:
		return (*build).compareModules
	case linkModules:
		return (*build).linkModules
	case comparePolicy:
		return (*build).comparePolicy
	}
	return (*build).findForbidden
}

// run executes the passes from first to last, up to the first failure.
func (b *build) run(first, last int) {
	f := success()
	defer func() { b.note(f) }()
	for n := first; n <= last; n++ {
		if f = passOf(n)(b); f.fault.Code != api.OK {
			return
		}
	}
}

// note notes how a build ended. Next to a fault there are no results.
func (b *build) note(f failure) {
	if f.fault.Code != api.OK {
		*b = build{}
	}
	b.failure = f
}

func success() failure { return failure{at: noModule} }

// fail returns the failure of an error that concerns no module.
func fail(code api.Errno, name string) failure {
	return failure{noModule, api.Fault{Code: code, Name: name}}
}

func (b *build) countSources() failure { return count(len(b.sources)) }

func (b *build) countModules() failure { return count(len(b.modules)) }

// count returns the failure of a number of sources or modules.
func count(n int) failure {
	switch {
	case n == 0:
		return fail(api.ErrArg, "")
	case n > api.MaxModules:
		return fail(api.ErrLong, "")
	}
	return success()
}

func (b *build) readSources() failure {
	for i, src := range b.sources {
		m, f := read(src)
		if f.Code != api.OK {
			return failure{i, f}
		}
		b.modules = append(b.modules, m)
	}
	return success()
}

// read returns the module of a source that has no fault by itself.
func read(src string) (api.Module, api.Fault) {
	m, f := syntax.Parse(src)
	if f.Code != api.OK {
		return api.Module{}, f
	}
	return m, modcheck.Check(m)
}

func (b *build) flattenModules() failure {
	var f api.Fault
	b.modules, f = optional.Flatten(b.modules)
	return failure{noModule, f}
}

func (b *build) compareModules() failure {
	l := conflict.Modules(b.modules)
	if len(l) == 0 {
		return success()
	}
	return failure{l[0].B, api.Fault{Code: l[0].Code, Pos: l[0].PosB, Name: l[0].Name}}
}

func (b *build) linkModules() failure {
	var f failure
	b.policy, f.at, f.fault = linker.Link(b.modules)
	return f
}

func (b *build) comparePolicy() failure {
	l := conflict.Policy(b.policy)
	if len(l) == 0 {
		return success()
	}
	return fail(l[0].Code, l[0].Name)
}

func (b *build) findForbidden() failure {
	l := expand.Never(api.Policy{Rules: concerned(b.policy.Rules)})
	if len(l) == 0 {
		return success()
	}
	return fail(api.ErrNever, b.policy.Types[l[0].Source].Name)
}

// concerned returns the rules of the classes that neverallow rules have, without conditions: these do not change for which pairs and classes something is forbidden, but there are far more entries with them.
func concerned(l []api.Rule) []api.Rule {
	classes := map[int]bool{}
	for _, r := range l {
		if r.Kind == api.RuleNeverAllow {
			classes[r.Class] = true
		}
	}
	var rules []api.Rule
	for _, r := range l {
		if classes[r.Class] {
			r.Cond = 0
			rules = append(rules, r)
		}
	}
	return rules
}
