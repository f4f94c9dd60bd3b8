package level

import (
	"slices"

	"accesscontrol/api"
)

// Level returns the level that a level in a source denotes.
func Level(l api.LevelText, sens, cats []string) (api.Level, api.Errno) {
	if !proper(sens, cats) {
		return api.Level{}, api.ErrArg
	}
	level := api.Level{Sens: slices.Index(sens, l.Sens)}
	if level.Sens < 0 {
		return api.Level{}, api.ErrNone
	}
	for _, s := range l.Cats {
		set, code := categories(s, cats)
		if code != api.OK {
			return api.Level{}, code
		}
		level.Cats |= set
	}
	return level, api.OK
}

// Range returns the range that a range in a source denotes.
func Range(r api.RangeText, sens, cats []string) (api.Range, api.Errno) {
	low, code := Level(r.Low, sens, cats)
	if code != api.OK {
		return api.Range{}, code
	}
	if isMissing(r.High) {
		return api.Range{Low: low, High: low}, api.OK
	}
	high, code := Level(r.High, sens, cats)
	if code != api.OK {
		return api.Range{}, code
	}
	if !Dominates(high, low) {
		return api.Range{}, api.ErrLevel
	}
	return api.Range{Low: low, High: high}, api.OK
}

// Source returns a range as it is written in a source, in its shortest form.
func Source(r api.Range, sens, cats []string) (api.RangeText, api.Errno) {
	if !proper(sens, cats) {
		return api.RangeText{}, api.ErrArg
	}
	if !CheckRange(r, len(sens), len(cats)) {
		return api.RangeText{}, api.ErrLevel
	}
	t := api.RangeText{Low: named(r.Low, sens, cats)}
	if r.High != r.Low {
		t.High = named(r.High, sens, cats)
	}
	return t, api.OK
}

// categories returns the categories of a span.
func categories(s api.Span, cats []string) (uint64, api.Errno) {
	from := slices.Index(cats, s.From)
	to := from
	if s.To != "" {
		to = slices.Index(cats, s.To)
	}
	switch {
	case from < 0 || to < 0:
		return 0, api.ErrNone
	case to < from:
		return 0, api.ErrLevel
	}
	var set uint64
	for n := from; n <= to; n++ {
		set |= 1 << n
	}
	return set, api.OK
}

// named returns a valid level with its names.
func named(l api.Level, sens, cats []string) api.LevelText {
	t := api.LevelText{Sens: sens[l.Sens]}
	for _, r := range runs(l.Cats) {
		s := api.Span{From: cats[r.first]}
		if r.last != r.first {
			s.To = cats[r.last]
		}
		t.Cats = append(t.Cats, s)
	}
	return t
}

// run is a sequence of categories with consecutive numbers.
type run struct{ first, last int }

// runs returns the longest sequences in a set of categories, ascending.
func runs(set uint64) []run {
	var l []run
search:
	for n := 0; n < api.MaxCats; n++ {
		if !has(set, n) {
			continue
		}
		for first := n; ; n++ {
			if !has(set, n+1) {
				l = append(l, run{first, n})
				continue search
			}
		}
	}
	return l
}

func has(set uint64, n int) bool { return set>>n&1 == 1 }

func isMissing(l api.LevelText) bool { return l.Sens == "" && len(l.Cats) == 0 }

// proper reports whether the names of sensitivities and of categories are proper.
func proper(sens, cats []string) bool {
	return properList(sens, api.MaxSens) && properList(cats, api.MaxCats)
}

func properList(names []string, most int) bool {
	if len(names) > most {
		return false
	}
	for i, name := range names {
		if len(name) > api.MaxName || !isName(name) || slices.Index(names, name) != i {
			return false
		}
	}
	return true
}
