package vm

import (
	"stile/api"
	"stile/words"
)

// work is what instructions of a kind do: as what it is told, and how it is done. The core's next instruction is then the one behind already.
type work struct {
	told api.DidKind
	do   func(m *Machine, c *core, i api.Instr, did *api.Did)
}

func works() [api.InstrCount]work {
	return [api.InstrCount]work{
		api.InstrSet:   {api.DidCompute, (*Machine).set},
		api.InstrOp:    {api.DidCompute, (*Machine).operate},
		api.InstrLoad:  {api.DidLoad, (*Machine).load},
		api.InstrStore: {api.DidStore, (*Machine).store},
		api.InstrSwap:  {api.DidSwap, (*Machine).swap},
		api.InstrFence: {api.DidFence, (*Machine).fence},
		api.InstrPrint: {api.DidPrint, (*Machine).print},
		api.InstrJump:  {api.DidCompute, (*Machine).jump},
		api.InstrZero:  {api.DidCompute, (*Machine).zero},
		api.InstrHalt:  {api.DidHalt, (*Machine).halt},
	}
}

func (m *Machine) set(c *core, i api.Instr, _ *api.Did) { c.Regs[i.D] = i.Word }

func (m *Machine) operate(c *core, i api.Instr, _ *api.Did) {
	a, b := c.Regs[i.A], c.Regs[i.B]
	if words.Two(i.Op) {
		c.Regs[i.D], _ = words.Do(i.Op, a, b)
	} else {
		c.Regs[i.D], _ = words.One(i.Op, a)
	}
}

func (m *Machine) load(c *core, i api.Instr, did *api.Did) {
	did.Addr = i.Addr
	did.Word, did.Own = c.newest(i.Addr)
	if !did.Own {
		did.Word = m.memory.at(i.Addr)
	}
	c.Regs[i.D] = did.Word
}

func (m *Machine) store(c *core, i api.Instr, did *api.Did) {
	did.Addr, did.Word = i.Addr, c.Regs[i.A]
	c.Buffer = append(c.Buffer, api.Store{At: did.At, Addr: did.Addr, Word: did.Word})
}

func (m *Machine) swap(c *core, i api.Instr, did *api.Did) {
	did.Addr, did.Word, did.Put = i.Addr, m.memory.at(i.Addr), c.Regs[i.D]
	c.Regs[i.D] = did.Word
	m.memory.put(i.Addr, did.Put)
}

// fence has nothing to do, once the core need not wait for it any more.
func (m *Machine) fence(*core, api.Instr, *api.Did) {}

func (m *Machine) print(c *core, i api.Instr, did *api.Did) {
	did.Word = c.Regs[i.A]
	m.said = m.said.Then(api.Print{Thread: did.Core, Word: did.Word})
}

func (m *Machine) jump(c *core, i api.Instr, _ *api.Did) { c.At = i.To }

func (m *Machine) zero(c *core, i api.Instr, _ *api.Did) {
	if c.Regs[i.A] == 0 {
		c.At = i.To
	}
}

func (m *Machine) halt(c *core, _ api.Instr, did *api.Did) { c.Halted, c.At = true, did.At }
