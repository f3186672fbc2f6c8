package roam

import (
	"slices"

	"stile/api"
	"stile/source"
	"stile/walk"
)

// namer gives the parts of a unit's situations their numbers.
type namer struct {
	unit   api.Unit
	names  walk.Numbers[string]
	prints walk.Prints
}

// parts are the parts of a situation's text (source.Key), each as the number that it has by name: of each thread, of the variables, of who holds the locks, of what was printed.
type parts struct {
	threads               []int
	memory, locks, prints int
}

func (p parts) text() string {
	var b []byte
	for _, n := range p.threads {
		b = walk.Append(b, n)
	}
	b = walk.Append(b, p.memory)
	b = walk.Append(b, p.locks)
	return string(walk.Append(b, p.prints))
}

// partsOf are the parts of a machine that has printed nothing.
func (x *namer) partsOf(m *source.Machine) parts {
	var p parts
	for thread := range x.unit.Graphs {
		p.threads = append(p.threads, x.names.Of(threadText(m, thread)))
	}
	p.memory = x.names.Of(memoryText(m))
	p.locks = x.names.Of(x.locksText(m))
	return p
}

// partsBehind are the parts of a machine that was as p says, and has done an action.
func (x *namer) partsBehind(p parts, m *source.Machine, did api.Acted) parts {
	p.threads = slices.Clone(p.threads)
	p.threads[did.Thread] = x.names.Of(threadText(m, did.Thread))
	switch did.Kind {
	case api.NodeStore, api.NodeSwap:
		p.memory = x.names.Of(memoryText(m))
	case api.NodeLock, api.NodeUnlock:
		p.locks = x.names.Of(x.locksText(m))
	case api.NodePrint:
		p.prints = x.prints.Behind(p.prints, api.Print{Thread: did.Thread, Word: did.Word})
	}
	return p
}

func threadText(m *source.Machine, thread int) string {
	b := walk.Append(nil, m.At(thread))
	for _, w := range m.Slots(thread) {
		b = walk.Append(b, w)
	}
	return string(b)
}

func memoryText(m *source.Machine) string {
	var b []byte
	for _, w := range m.Memory() {
		b = walk.Append(b, w)
	}
	return string(b)
}

func (x *namer) locksText(m *source.Machine) string {
	var b []byte
	for lock := range x.unit.Locks {
		b = walk.Append(b, m.Holder(lock))
	}
	return string(b)
}
