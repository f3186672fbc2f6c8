package gen

import (
	"stile/api"
	"stile/words"
)

// What memory has of a lock.
const (
	lockFree = 0
	lockHeld = 1
)

// kinds has, for each kind of nodes, what makes a node's code.
func (c *coder) kinds() map[api.NodeKind]func(n api.Node) {
	return map[api.NodeKind]func(n api.Node){
		api.NodeSet:    c.set,
		api.NodeLoad:   c.load,
		api.NodeStore:  c.store,
		api.NodeSwap:   c.swap,
		api.NodeLock:   c.lock,
		api.NodeUnlock: c.unlock,
		api.NodePrint:  c.print,
		api.NodeBranch: c.branch,
		api.NodeEnd:    c.end,
	}
}

func (c *coder) set(n api.Node) {
	to := c.target(n.Slot)
	if n.Op == api.OpNone {
		c.move(n.A, to)
	} else {
		i := api.Instr{Kind: api.InstrOp, Op: n.Op, D: to, A: c.fetch(n.A, regX)}
		if words.Two(n.Op) {
			i.B = c.fetch(n.B, regY)
		}
		c.put(i)
	}
	c.keep(n.Slot)
}

func (c *coder) load(n api.Node) {
	c.put(api.Instr{Kind: api.InstrLoad, D: c.target(n.Slot), Addr: n.Thing})
	c.keep(n.Slot)
}

func (c *coder) store(n api.Node) {
	from := c.fetch(n.A, regX)
	c.put(api.Instr{Kind: api.InstrStore, A: from, Addr: n.Thing})
}

// swap: the register of what is put comes to have what was there: so that is never a slot's own.
func (c *coder) swap(n api.Node) {
	c.move(n.A, regZ)
	c.put(api.Instr{Kind: api.InstrSwap, D: regZ, Addr: n.Thing})
	if to := c.target(n.Slot); to != regZ {
		c.put(registerTo(to, regZ))
	}
	c.keep(n.Slot)
}

// lock: who finds it held puts there what is there, and tries again.
func (c *coder) lock(n api.Node) {
	first := len(c.code)
	c.put(
		wordTo(regZ, lockHeld),
		api.Instr{Kind: api.InstrSwap, D: regZ, Addr: c.locks + n.Thing},
		api.Instr{Kind: api.InstrZero, A: regZ, To: first + 4},
		api.Instr{Kind: api.InstrJump, To: first},
	)
}

func (c *coder) unlock(n api.Node) {
	c.put(wordTo(regZ, lockFree), api.Instr{Kind: api.InstrStore, A: regZ, Addr: c.locks + n.Thing})
}

func (c *coder) print(n api.Node) {
	from := c.fetch(n.A, regX)
	c.put(api.Instr{Kind: api.InstrPrint, A: from})
}

func (c *coder) branch(n api.Node) {
	if n.Else == n.Next {
		return
	}
	from := c.fetch(n.A, regX)
	c.lead(api.Instr{Kind: api.InstrZero, A: from}, n.Else)
}

func (c *coder) end(api.Node) { c.put(api.Instr{Kind: api.InstrHalt}) }
