package expand

import (
	"cmp"

	"accesscontrol/api"
)

// key is what two entries share that are merged.
type key struct{ source, target, class, cond int }

// vectors are the permissions of an entry.
type vectors struct{ allow, auditAllow, dontAudit uint32 }

func keyOf(e api.Entry) key { return key{e.Source, e.Target, e.Class, e.Cond} }

func vectorsOf(e api.Entry) vectors { return vectors{e.Allow, e.AuditAllow, e.DontAudit} }

// ruleVectors returns the vectors of each entry of a rule; they are empty if it has none.
func ruleVectors(r api.Rule) vectors {
	switch r.Kind {
	case api.RuleAllow:
		return vectors{allow: r.Perms}
	case api.RuleAuditAllow:
		return vectors{auditAllow: r.Perms}
	case api.RuleDontAudit:
		return vectors{dontAudit: r.Perms}
	}
	return vectors{}
}

func (v vectors) union(w vectors) vectors {
	return vectors{v.allow | w.allow, v.auditAllow | w.auditAllow, v.dontAudit | w.dontAudit}
}

func (v vectors) entry(k key) api.Entry {
	return api.Entry{
		Source: k.source, Target: k.target, Class: k.class, Cond: k.cond,
		Allow: v.allow, AuditAllow: v.auditAllow, DontAudit: v.dontAudit,
	}
}

// compareCases compares the keys of entries without their conditions.
func compareCases(a, b api.Entry) int {
	return cmp.Or(cmp.Compare(a.Source, b.Source), cmp.Compare(a.Target, b.Target), cmp.Compare(a.Class, b.Class))
}

func compareKeys(a, b api.Entry) int {
	return cmp.Or(compareCases(a, b), cmp.Compare(a.Cond, b.Cond))
}
