package optimizer

import (
	"slices"

	"accesscontrol/api"
	"accesscontrol/bitset"
)

// types is how many types a set can have.
const types = 256

// giver is a rule. It gives nothing while it is gone.
type giver struct {
	api.Rule
	gone bool
}

// giversOf returns rules, of which those that forbid do so in all states.
func giversOf(l []api.Rule) []giver {
	var givers []giver
	for _, r := range l {
		if r.Kind == api.RuleNeverAllow {
			r.Cond = 0
		}
		givers = append(givers, giver{Rule: r})
	}
	return givers
}

// place is what rules have in common that may give the same.
type place struct{ kind, class int }

// row is a place with one of the sources.
type row struct {
	place
	source int
}

func (g *giver) place() place { return place{g.Kind, g.Class} }

func (g *giver) targets(source int) api.Set {
	if g.Self {
		return bitset.With(g.Target, source)
	}
	return g.Target
}

// comparison finds out whether rules of the second policy of scenes give what rules of the first one give.
type comparison struct {
	scenes  *scenes
	rows    map[row][]*giver  // of the second policy; the last rule stands first
	sources map[place]api.Set // of types that no rule tells apart, one
}

func newComparison(s *scenes, first, second []giver) *comparison {
	c := &comparison{s, map[row][]*giver{}, toldApart(first, second)}
	// A search begins with the later rules, because Redundant takes away the earlier ones.
	for n := len(second) - 1; n >= 0; n-- {
		g := &second[n]
		for _, source := range c.sourcesOf(g) {
			at := row{g.place(), source}
			c.rows[at] = append(c.rows[at], g)
		}
	}
	return c
}

// toldApart returns, for each place, the least of all types that are in the same sets of its rules. What is given for one of them is given likewise for the others.
func toldApart(lists ...[]giver) map[place]api.Set {
	blocks := map[place][]api.Set{}
	for _, l := range lists {
		for i := range l {
			at := l[i].place()
			if blocks[at] == nil {
				blocks[at] = []api.Set{bitset.All(types)}
			}
			blocks[at] = divide(divide(blocks[at], l[i].Source), l[i].Target)
		}
	}
	least := map[place]api.Set{}
	for at, l := range blocks {
		for _, block := range l {
			least[at] = bitset.With(least[at], bitset.Least(block))
		}
	}
	return least
}

// divide divides blocks of types into what is in a set and what is not.
func divide(blocks []api.Set, s api.Set) []api.Set {
	var l []api.Set
	for _, block := range blocks {
		for _, x := range []api.Set{bitset.Meet(block, s), bitset.Minus(block, s)} {
			if x != (api.Set{}) {
				l = append(l, x)
			}
		}
	}
	return l
}

// sourcesOf returns the sources of a rule that have to be examined.
func (c *comparison) sourcesOf(g *giver) []int {
	return bitset.List(bitset.Meet(g.Source, c.sources[g.place()]))
}

// giveAll reports whether the rules of b give all that those of a give.
func giveAll(a, b *api.Policy) bool {
	first, second := giversOf(a.Rules), giversOf(b.Rules)
	c := newComparison(scenesOf(a, b), first, second)
	for i := range first {
		if !c.give(&first[i]) {
			return false
		}
	}
	return true
}

// give reports whether the rules of the second policy give all that a rule of the first one gives.
func (c *comparison) give(g *giver) bool {
	for _, source := range c.sourcesOf(g) {
		x := share{g.Perms, g.targets(source), c.scenes.where(g.Cond)}
		if !c.giveShare(x, source, c.rows[row{g.place(), source}]) {
			return false
		}
	}
	return true
}

// share is what is given for one source: permissions for targets in some scenes.
type share struct {
	perms   uint32
	targets api.Set
	part    part
}

func (x share) isPlainlyEmpty() bool {
	return x.perms == 0 || x.targets == api.Set{} || x.part.isPlainlyEmpty()
}

// isWithin reports whether a rule plainly gives all of a share.
func (x share) isWithin(g *giver, source int) bool {
	return x.perms&^g.Perms == 0 && bitset.Within(x.targets, g.targets(source)) && x.part.without(g.Cond).isPlainlyEmpty()
}

// meet returns what of a share a rule gives.
func (x share) meet(g *giver, source int) share {
	return share{x.perms & g.Perms, bitset.Meet(x.targets, g.targets(source)), x.part.with(g.Cond)}
}

// giveShare reports whether rules of a row give all of a share. What the first rule that gives some of it does not give is left to those behind it: the other permissions; the same ones for the other targets; and those for the same targets in the other scenes.
func (c *comparison) giveShare(x share, source int, l []*giver) bool {
	if x.isPlainlyEmpty() || slices.ContainsFunc(l, func(g *giver) bool { return !g.gone && x.isWithin(g, source) }) {
		return true
	}
	for i, g := range l {
		y := x.meet(g, source)
		if g.gone || y.isPlainlyEmpty() {
			continue
		}
		return c.giveShare(share{x.perms &^ y.perms, x.targets, x.part}, source, l[i+1:]) &&
			c.giveShare(share{y.perms, bitset.Minus(x.targets, y.targets), x.part}, source, l[i+1:]) &&
			c.giveShare(share{y.perms, y.targets, x.part.without(g.Cond)}, source, l[i+1:])
	}
	return c.scenes.isEmpty(x.part)
}
