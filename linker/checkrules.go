package linker

import (
	"accesscontrol/api"
	"accesscontrol/expression"
	"accesscontrol/grammar"
)

func (c checker) rules() api.Errno {
	return each(c.p.Rules, api.MaxRules, func(r *api.Rule) api.Errno {
		switch {
		case r.Kind < api.RuleAllow || r.Kind > api.RuleNeverAllow:
			return api.ErrKind
		case !c.hasTypes(r.Source) || !c.hasTypes(r.Target) || !c.hasPerms(r.Class, r.Perms) || !c.hasCond(r.Cond):
			return api.ErrRange
		case isEmpty(r.Source) || isEmpty(r.Target) && !r.Self || r.Perms == 0 || r.Kind == api.RuleNeverAllow && r.Cond != 0:
			return api.ErrArg
		}
		return api.OK
	})
}

func (c checker) transitions() api.Errno {
	return each(c.p.Trans, api.MaxTrans, func(t *api.Trans) api.Errno {
		switch {
		case t.Kind < api.TransCreate || t.Kind > api.TransMember:
			return api.ErrKind
		case !c.hasTypes(t.Source) || !c.hasTypes(t.Target) || !c.hasClass(t.Class) || !c.hasType(t.Result) || !c.hasCond(t.Cond):
			return api.ErrRange
		case isEmpty(t.Source) || isEmpty(t.Target) || t.Name != "" && t.Kind != api.TransCreate:
			return api.ErrArg
		}
		return unless(t.Name == "" || grammar.ObjectName(t.Name), api.ErrName)
	})
}

func (c checker) roleTransitions() api.Errno {
	return each(c.p.RoleTrans, api.MaxTrans, func(t *api.RoleTrans) api.Errno {
		switch {
		case !c.hasProcessRoles(t.Roles) || !c.hasTypes(t.Types) || !c.hasClass(t.Class) || !c.hasProcessRole(t.Result):
			return api.ErrRange
		case isEmpty(t.Roles) || isEmpty(t.Types):
			return api.ErrArg
		}
		return api.OK
	})
}

func (c checker) rangeTransitions() api.Errno {
	return each(c.p.Ranges, api.MaxTrans, func(t *api.RangeTrans) api.Errno {
		switch {
		case !c.hasTypes(t.Source) || !c.hasTypes(t.Target) || !c.hasClass(t.Class):
			return api.ErrRange
		case isEmpty(t.Source) || isEmpty(t.Target):
			return api.ErrArg
		}
		return unless(c.hasRange(t.Range), api.ErrLevel)
	})
}

func (c checker) constraints() api.Errno {
	return each(c.p.Constraints, api.MaxConstraints, func(x *api.Constraint) api.Errno {
		switch {
		case !c.hasPerms(x.Class, x.Perms):
			return api.ErrRange
		case (x.Perms == 0) != x.Validate:
			return api.ErrArg
		}
		return expression.Constraint(&x.Expr, c.p, x.Validate)
	})
}

func (c checker) initialSids() api.Errno {
	names := space{}
	return each(c.p.Sids, api.MaxSids, func(s *api.InitialSid) api.Errno {
		if code := names.add(s.Name); code != api.OK {
			return code
		}
		return c.context(s.Context)
	})
}

func (c checker) fileRules() api.Errno {
	return each(c.p.Files, api.MaxFiles, func(f *api.FileRule) api.Errno {
		switch {
		case !isPattern(f.Pattern):
			return api.ErrName
		case f.Kind < api.FileAny || f.Kind > api.FileSocket:
			return api.ErrKind
		}
		return c.context(f.Context)
	})
}

// isPattern reports whether s can be a string of a source, and is not empty.
func isPattern(s string) bool {
	for i := range len(s) {
		if b := s[i]; b < ' ' || b > '~' || b == '"' {
			return false
		}
	}
	return 1 <= len(s) && len(s) <= api.MaxPath
}

func (c checker) assertions() api.Errno {
	names := space{}
	return each(c.p.Asserts, api.MaxAsserts, func(a *api.Assert) api.Errno {
		if code := names.add(a.Name); code != api.OK {
			return code
		}
		switch {
		case a.Kind < api.AssertNoFlow || a.Kind > api.AssertSeparate:
			return api.ErrKind
		case !c.hasTypes(a.Source) || !c.hasTypes(a.Target):
			return api.ErrRange
		case isEmpty(a.Source) || isEmpty(a.Target):
			return api.ErrArg
		}
		return api.OK
	})
}
