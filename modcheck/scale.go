package modcheck

import (
	"slices"

	"accesscontrol/api"
	"accesscontrol/level"
	"accesscontrol/scope"
)

// scale is what levels are made of: the names of the sensitivities and categories that are declared.
type scale struct{ sens, cats []string }

// with returns a scale to which the names that symbols declare are added.
func (c scale) with(l []api.Symbol) scale {
	return scale{
		slices.Concat(c.sens, scope.Declared(l, api.SymSensitivity)),
		slices.Concat(c.cats, scope.Declared(l, api.SymCategory)),
	}
}

// isProper reports whether the names are proper: that is what layer 5 asks for first.
func (c scale) isProper() bool {
	_, code := level.Text(api.Range{}, c.sens, c.cats)
	return code != api.ErrArg
}

// knows reports whether a level is known.
func (c scale) knows(l api.LevelText) bool {
	if !c.isProper() || !slices.Contains(c.sens, l.Sens) {
		return false
	}
	for _, s := range l.Cats {
		if !slices.Contains(c.cats, s.From) || s.To != "" && !slices.Contains(c.cats, s.To) {
			return false
		}
	}
	return true
}

// knowsRange reports whether both levels of a range are known. A range with one level has it twice.
func (c scale) knowsRange(r api.RangeText) bool {
	return c.knows(r.Low) && (r.High.Sens == "" || c.knows(r.High))
}

// forbids reports whether a level is known, and not valid.
func (c scale) forbids(l api.LevelText) bool {
	_, code := level.Level(l, c.sens, c.cats)
	return c.knows(l) && code != api.OK
}

// forbidsRange reports whether a level of a range is known and not valid, or both are known, and High does not dominate Low.
func (c scale) forbidsRange(r api.RangeText) bool {
	if !c.knowsRange(r) {
		return c.forbids(r.Low) || c.forbids(r.High)
	}
	_, code := level.Range(r, c.sens, c.cats)
	return code != api.OK
}

// excludes reports whether a level and a range are known, and the level does not lie within the range. Both are valid if they are known.
func (c scale) excludes(l api.LevelText, r api.RangeText) bool {
	if !c.knows(l) || !c.knowsRange(r) {
		return false
	}
	inner, _ := level.Level(l, c.sens, c.cats)
	outer, _ := level.Range(r, c.sens, c.cats)
	return !level.Contains(outer, api.Range{Low: inner, High: inner})
}
