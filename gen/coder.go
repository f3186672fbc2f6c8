package gen

import "stile/api"

// The registers X, Y and Z are for values on their way: no slot has them.
const (
	regX = api.FreeRegs + iota
	regY
	regZ
)

// coder makes a thread's code.
type coder struct {
	locks, cells int // where in memory the locks stand, and the thread's own cells
	places       []api.Place
	from         int // what instructions that are put tell of where they come from
	code         []api.Instr
	starts       []int  // of each node the number of its first instruction
	leads        []lead // the instructions that lead to nodes: where these begin may not be known yet
}

// lead is the number of an instruction that leads to a node's first one.
type lead struct{ at, node int }

func newCoder(u api.Unit, places []api.Alloc, thread int) *coder {
	return &coder{locks: lockAt(u, 0), cells: cellAt(u, places, thread, 0), places: places[thread].Places}
}

// thread makes the code of all nodes, ahead of some of which, rising, a fence stands.
func (c *coder) thread(nodes []api.Node, fences []int) {
	kinds := c.kinds()
	for number, n := range nodes {
		c.from = n.Origin + 1
		c.starts = append(c.starts, len(c.code))
		if len(fences) > 0 && fences[0] == number {
			fences = fences[1:]
			c.put(api.Instr{Kind: api.InstrFence})
		}
		kinds[n.Kind](n)
		if n.Kind != api.NodeEnd && n.Next != number+1 {
			c.lead(api.Instr{Kind: api.InstrJump}, n.Next)
		}
	}
	for _, x := range c.leads {
		c.code[x.at].To = c.starts[x.node]
	}
}

// put puts instructions behind those that are there.
func (c *coder) put(l ...api.Instr) {
	for _, i := range l {
		i.From = c.from
		c.code = append(c.code, i)
	}
}

// lead puts an instruction that goes on at a node.
func (c *coder) lead(i api.Instr, node int) {
	c.leads = append(c.leads, lead{len(c.code), node})
	c.put(i)
}

// fetch has a value in a register, and tells in which: its slot's own one, if that has one, else spare.
func (c *coder) fetch(v api.Value, spare int) int {
	if v.IsSlot && !c.places[v.Slot].InCell {
		return c.places[v.Slot].N
	}
	c.move(v, spare)
	return spare
}

// move has a value in just this register.
func (c *coder) move(v api.Value, to int) {
	switch {
	case !v.IsSlot:
		c.put(wordTo(to, v.Word))
	case c.places[v.Slot].InCell:
		c.put(api.Instr{Kind: api.InstrLoad, D: to, Addr: c.cell(v.Slot)})
	default:
		c.put(registerTo(to, c.places[v.Slot].N))
	}
}

// target is the register in which a slot's word is made; keep puts it where the slot is kept, if that is elsewhere.
func (c *coder) target(slot int) int {
	if c.places[slot].InCell {
		return regZ
	}
	return c.places[slot].N
}

func (c *coder) keep(slot int) {
	if c.places[slot].InCell {
		c.put(api.Instr{Kind: api.InstrStore, A: regZ, Addr: c.cell(slot)})
	}
}

// cell is the address of the cell that a slot has.
func (c *coder) cell(slot int) int { return c.cells + c.places[slot].N }

func wordTo(to int, w int64) api.Instr { return api.Instr{Kind: api.InstrSet, D: to, Word: w} }

// registerTo: there is no instruction that copies a register; what is or-ed with itself stays.
func registerTo(to, from int) api.Instr {
	return api.Instr{Kind: api.InstrOp, Op: api.OpOr, D: to, A: from, B: from}
}
