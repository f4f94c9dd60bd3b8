package optional

import (
	"slices"

	"accesscontrol/api"
	"accesscontrol/scope"
)

// symbolsOf returns the symbols of each module; one with a fault has none.
func symbolsOf(l []api.Module) [][]api.Symbol {
	var all [][]api.Symbol
	for _, m := range l {
		symbols, _ := scope.Symbols(m)
		all = append(all, symbols)
	}
	return all
}

// needs returns the modules that declare what the module i requires; all has the symbols of each one.
func needs(all [][]api.Symbol, i int) []int {
	required := map[thing]bool{}
	for _, s := range all[i] {
		if s.Required {
			required[thing{kind: s.Kind, symbol: s.Name}] = true
		}
	}
	var l []int
	for j, symbols := range all {
		if j != i && slices.ContainsFunc(symbols, func(s api.Symbol) bool {
			return !s.Required && required[thing{kind: s.Kind, symbol: s.Name}]
		}) {
			l = append(l, j)
		}
	}
	return l
}

// queue has, of each module, what it needs, and whether it is there already.
type queue struct {
	needs [][]int
	there []bool
}

func newQueue(l []api.Module) queue {
	all := symbolsOf(l)
	q := queue{there: make([]bool, len(l))}
	for i := range all {
		q.needs = append(q.needs, needs(all, i))
	}
	return q
}

// next returns the least module that is left and needs none that is left, -1 if there is none.
func (q queue) next() int {
	for i, l := range q.needs {
		if !q.there[i] && q.firstLeft(l) < 0 {
			return i
		}
	}
	return -1
}

// firstLeft returns the first module of a list that is left, -1 if there is none.
func (q queue) firstLeft(l []int) int {
	for _, i := range l {
		if !q.there[i] {
			return i
		}
	}
	return -1
}

// cycle returns modules that need each other, where each module that is left needs another one that is.
func (q queue) cycle() []int {
	var path []int
	i := slices.Index(q.there, false)
	for !slices.Contains(path, i) {
		path = append(path, i)
		i = q.firstLeft(q.needs[i])
	}
	return path[slices.Index(path, i):]
}
