package optional

import (
	"accesscontrol/api"
	"accesscontrol/scope"
)

// part is Then or Else of a block, or what stands in a module outside of blocks: its symbols, and the blocks that stand directly in it.
type part struct {
	symbols []api.Symbol
	blocks  []*block
}

// block is an optional block. A round looks at it only if it is doubtful.
type block struct {
	first, second           part // Then and Else
	mark, present, doubtful bool
}

// enabledPart returns the part of a present block that is enabled.
func (b *block) enabledPart() part {
	if b.mark {
		return b.first
	}
	return b.second
}

// thing is what a module can declare or require: a symbol, or a permission of it.
type thing struct {
	kind   int
	symbol string
	isPerm bool
	perm   string
}

// things returns a symbol and its permissions.
func things(s api.Symbol) []thing {
	l := []thing{{kind: s.Kind, symbol: s.Name}}
	for _, name := range s.Perms {
		l = append(l, thing{s.Kind, s.Name, true, name})
	}
	return l
}

// choice is what is chosen of the blocks of modules. A block is doubtful if it has become present, or if something that it requires is not there any more, since a round looked at it: no other one can lose its mark.
type choice struct {
	blocks   []*block           // of all modules, by number
	ends     []int              // the number of blocks up to the end of each module
	there    map[thing]int      // how many enabled parts declare a thing
	needing  map[thing][]*block // the blocks whose first part requires it
	doubtful []*block
}

// newChoice returns the choice with which the rounds begin; the fault is that of the modules.
func newChoice(l []api.Module) (*choice, api.Fault) {
	c := &choice{there: map[thing]int{}, needing: map[thing][]*block{}}
	var outer []part
	for i := range l {
		p, f := c.read(l[i].Stmts)
		if f.Code != api.OK {
			return nil, f
		}
		outer = append(outer, p)
		c.ends = append(c.ends, len(c.blocks))
	}
	c.listNeeds()
	for _, p := range outer {
		c.enter(p)
	}
	return c, api.Fault{}
}

// read returns the part that consists of statements, and numbers the blocks in it.
func (c *choice) read(l []api.Stmt) (part, api.Fault) {
	symbols, f := scope.Block(l)
	if f.Code != api.OK {
		return part{}, f
	}
	p := part{symbols: symbols}
	for i := range l {
		if l[i].Kind != api.StmtOptional {
			continue
		}
		b, f := c.readBlock(&l[i])
		if f.Code != api.OK {
			return part{}, f
		}
		p.blocks = append(p.blocks, b)
	}
	return p, api.Fault{}
}

// readBlock returns a block, which is numbered ahead of those within it.
func (c *choice) readBlock(s *api.Stmt) (*block, api.Fault) {
	b := &block{mark: true}
	c.blocks = append(c.blocks, b)
	var f api.Fault
	if b.first, f = c.read(s.Then); f.Code != api.OK {
		return nil, f
	}
	if b.second, f = c.read(s.Else); f.Code != api.OK {
		return nil, f
	}
	return b, api.Fault{}
}

func (c *choice) listNeeds() {
	for _, b := range c.blocks {
		for _, s := range b.first.symbols {
			if !s.Required {
				continue
			}
			for _, t := range things(s) {
				c.needing[t] = append(c.needing[t], b)
			}
		}
	}
}

// settle makes marks false, round by round, as long as a doubtful block can lose its mark.
func (c *choice) settle() {
rounds:
	for {
		lost := c.lost()
		clear(c.doubtful)
		c.doubtful = c.doubtful[:0]
		for _, b := range lost {
			c.disable(b)
		}
		for _, b := range c.doubtful {
			if b.present && b.mark {
				continue rounds
			}
		}
		return
	}
}

// lost returns the blocks whose marks become false in this round. After it none is doubtful.
func (c *choice) lost() []*block {
	var l []*block
	for _, b := range c.doubtful {
		b.doubtful = false
		if b.present && b.mark && c.misses(b.first.symbols) {
			l = append(l, b)
		}
	}
	return l
}

// misses reports whether a requirement is not met by the symbols that are there. Only those of the same names can meet it.
func (c *choice) misses(need []api.Symbol) bool {
	var have []api.Symbol
	for _, s := range need {
		if c.there[thing{kind: s.Kind, symbol: s.Name}] == 0 {
			continue
		}
		h := api.Symbol{Kind: s.Kind, Name: s.Name}
		for _, name := range s.Perms {
			if c.there[thing{s.Kind, s.Name, true, name}] > 0 {
				h.Perms = append(h.Perms, name)
			}
		}
		have = append(have, h)
	}
	return len(scope.Missing(need, have)) > 0
}

// disable makes the mark of a block false. If another block of the same round has removed it, none of its parts is there.
func (c *choice) disable(b *block) {
	b.mark = false
	if b.present {
		c.enter(b.second)
		c.leave(b.first)
	}
}

// enter adds the symbols of a part that is enabled now, and those of the blocks in it.
func (c *choice) enter(p part) {
	c.adjust(p.symbols, 1)
	for _, b := range p.blocks {
		b.present = true
		c.doubt(b)
		c.enter(b.enabledPart())
	}
}

// leave removes what enter has added.
func (c *choice) leave(p part) {
	c.adjust(p.symbols, -1)
	for _, b := range p.blocks {
		b.present = false
		c.leave(b.enabledPart())
	}
}

// adjust changes the number of declarations of symbols. A block that requires what has none any more is doubtful.
func (c *choice) adjust(l []api.Symbol, by int) {
	for _, s := range l {
		if s.Required {
			continue
		}
		for _, t := range things(s) {
			c.there[t] += by
			if c.there[t] == 0 {
				for _, b := range c.needing[t] {
					c.doubt(b)
				}
			}
		}
	}
}

// doubt makes a block doubtful.
func (c *choice) doubt(b *block) {
	if !b.doubtful {
		b.doubtful = true
		c.doubtful = append(c.doubtful, b)
	}
}

// enabled returns for each module which of its blocks are present and marked.
func (c *choice) enabled() [][]bool {
	var l [][]bool
	first := 0
	for _, end := range c.ends {
		var marks []bool
		for _, b := range c.blocks[first:end] {
			marks = append(marks, b.present && b.mark)
		}
		l = append(l, marks)
		first = end
	}
	return l
}
