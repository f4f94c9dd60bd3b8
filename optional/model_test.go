package optional_test

import (
	"slices"

	"accesscontrol/api"
	"accesscontrol/scope"
)

// The model follows the words of the chapter: in each round it gathers everything anew.

// block is a block of a module, with those in its parts.
type block struct {
	s             *api.Stmt
	first, second []*block
	mark          bool
}

// blocksOf returns the blocks that stand directly in statements.
func blocksOf(l []api.Stmt) []*block {
	var all []*block
	for i := range l {
		if l[i].Kind == api.StmtOptional {
			all = append(all, &block{&l[i], blocksOf(l[i].Then), blocksOf(l[i].Else), true})
		}
	}
	return all
}

// numbered lists blocks with those within them, by number.
func numbered(l []*block) []*block {
	var all []*block
	for _, b := range l {
		all = append(all, b)
		all = append(all, numbered(b.first)...)
		all = append(all, numbered(b.second)...)
	}
	return all
}

// present lists the blocks that are present.
func present(l []*block) []*block {
	var all []*block
	for _, b := range l {
		all = append(all, b)
		if b.mark {
			all = append(all, present(b.first)...)
		} else {
			all = append(all, present(b.second)...)
		}
	}
	return all
}

// partsOf lists the parts of blocks in the order in which their faults count.
func partsOf(l []*block) [][]api.Stmt {
	var all [][]api.Stmt
	for _, b := range l {
		all = append(all, b.s.Then)
		all = append(all, partsOf(b.first)...)
		all = append(all, b.s.Else)
		all = append(all, partsOf(b.second)...)
	}
	return all
}

// modelFault says what the fault of modules is.
func modelFault(l []api.Module) api.Fault {
	for _, m := range l {
		parts := partsOf(blocksOf(m.Stmts))
		for _, part := range slices.Insert(parts, 0, m.Stmts) {
			if _, f := scope.Block(part); f.Code != api.OK {
				return f
			}
		}
	}
	return api.Fault{}
}

// symbolsThere returns the symbols of the modules and of the parts of present blocks that are enabled.
func symbolsThere(l []api.Module, present []*block) []api.Symbol {
	var there []api.Symbol
	for _, m := range l {
		symbols, _ := scope.Symbols(m)
		there = append(there, symbols...)
	}
	for _, b := range present {
		part := b.s.Then
		if !b.mark {
			part = b.s.Else
		}
		symbols, _ := scope.Block(part)
		there = append(there, symbols...)
	}
	return there
}

// modelChoice returns the blocks of each module as they are at the end, and the number of rounds.
func modelChoice(l []api.Module) ([][]*block, int) {
	var all [][]*block
	var outer []*block
	for _, m := range l {
		all = append(all, blocksOf(m.Stmts))
		outer = slices.Concat(outer, all[len(all)-1])
	}
	for rounds := 0; ; rounds++ {
		there := symbolsThere(l, present(outer))
		var lost []*block
		for _, b := range present(outer) {
			need, _ := scope.Block(b.s.Then)
			if b.mark && len(scope.Missing(need, there)) > 0 {
				lost = append(lost, b)
			}
		}
		if len(lost) == 0 {
			return all, rounds
		}
		for _, b := range lost {
			b.mark = false
		}
	}
}

// modelEnabled says what Enabled returns.
func modelEnabled(all [][]*block) [][]bool {
	var l [][]bool
	for _, blocks := range all {
		there := present(blocks)
		var enabled []bool
		for _, b := range numbered(blocks) {
			enabled = append(enabled, b.mark && slices.Contains(there, b))
		}
		l = append(l, enabled)
	}
	return l
}

// modelFlat returns statements with those of enabled parts in place of the blocks, which are those of the statements.
func modelFlat(l []api.Stmt, blocks []*block) []api.Stmt {
	var flat []api.Stmt
	for i := range l {
		n := slices.IndexFunc(blocks, func(b *block) bool { return b.s == &l[i] })
		switch {
		case n < 0:
			flat = append(flat, l[i])
		case blocks[n].mark:
			flat = append(flat, modelFlat(l[i].Then, blocks[n].first)...)
		default:
			flat = append(flat, modelFlat(l[i].Else, blocks[n].second)...)
		}
	}
	return flat
}

// modelNeeds says what Needs returns.
func modelNeeds(l []api.Module, i int) []int {
	var all []int
	required, _ := scope.Symbols(l[i])
	for j, m := range l {
		declared, _ := scope.Symbols(m)
		for _, r := range required {
			if i != j && r.Required && slices.Contains(scope.Declared(declared, r.Kind), r.Name) {
				all = append(all, j)
			}
		}
	}
	return slices.Compact(all)
}

// modelOrder says what Order returns.
func modelOrder(l []api.Module) ([]int, api.Errno) {
	var order, left []int
	for i := range l {
		left = append(left, i)
	}
	needsLeft := func(i int) []int {
		return slices.DeleteFunc(modelNeeds(l, i), func(n int) bool { return slices.Contains(order, n) })
	}
	for len(left) > 0 {
		n := slices.IndexFunc(left, func(i int) bool { return len(needsLeft(i)) == 0 })
		if n < 0 {
			break
		}
		order = append(order, left[n])
		left = slices.Delete(left, n, n+1)
	}
	if len(left) == 0 {
		return order, api.OK
	}
	path := []int{left[0]}
	for {
		next := needsLeft(path[len(path)-1])[0]
		if n := slices.Index(path, next); n >= 0 {
			return path[n:], api.ErrCycle
		}
		path = append(path, next)
	}
}
