package tso

import (
	"slices"

	"stile/api"
	"stile/vm"
	"stile/walk"
)

// namer gives the parts of an object's situations their numbers.
type namer struct {
	names    walk.Numbers[string]
	memories *memories
	prints   walk.Prints
}

func newNamer() *namer {
	return &namer{walk.Numbers[string]{}, newMemories(), walk.NewPrints()}
}

// parts are the parts of a situation, each as the number that like ones have: how each core stands, what memory has, what was printed.
type parts struct {
	cores  []int
	memory int64
	prints int
}

// text is the same of two situations just if they are one.
func (p parts) text() string {
	var b []byte
	for _, n := range p.cores {
		b = walk.Append(b, n)
	}
	b = walk.Append(b, p.memory)
	return string(walk.Append(b, p.prints))
}

// partsOf are the parts of a machine that has printed nothing.
func (x *namer) partsOf(m *vm.Machine) parts {
	p := parts{memory: x.memories.first(m.Memory())}
	for core := range m.Cores() {
		p.cores = append(p.cores, x.names.Of(coreText(m, core)))
	}
	return p
}

// partsBehind are the parts of a machine that was as p says, and has done something.
func (x *namer) partsBehind(p parts, m *vm.Machine, did api.Did) parts {
	p.cores = slices.Clone(p.cores)
	p.cores[did.Core] = x.names.Of(coreText(m, did.Core))
	switch did.Kind {
	case api.DidDrain:
		p.memory = x.memories.behind(p.memory, did.Addr, did.Word)
	case api.DidSwap:
		p.memory = x.memories.behind(p.memory, did.Addr, did.Put)
	case api.DidPrint:
		p.prints = x.prints.Behind(p.prints, api.Print{Thread: did.Core, Word: did.Word})
	}
	return p
}

// coreText is a text of a core's view.
func coreText(m *vm.Machine, core int) string {
	v, _ := m.View(core)
	halted := 0
	if v.Halted {
		halted = 1
	}
	b := walk.Append(walk.Append(nil, v.At), halted)
	for _, w := range v.Regs {
		b = walk.Append(b, w)
	}
	for _, s := range v.Buffer {
		b = walk.Append(walk.Append(b, s.At), s.Addr)
		b = walk.Append(b, s.Word)
	}
	return string(b)
}
