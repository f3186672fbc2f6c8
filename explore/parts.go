package explore

import (
	"slices"
	"strconv"

	"stile/api"
	"stile/source"
)

// names gives like texts the same number.
type names map[string]int

func (x names) number(text string) int {
	n, is := x[text]
	if !is {
		n = len(x)
		x[text] = n
	}
	return n
}

// parts are the parts of a situation's text (source.Key), each as the number that it has by name: of each thread, of the variables, of who holds the locks, of what was printed. Many situations have a part in common, and what was printed may be long: it is kept but once.
type parts struct {
	threads               []int
	memory, locks, prints int
}

// text is the same of two situations just if their source.Key is.
func (p parts) text() string {
	var b []byte
	for _, n := range p.threads {
		b = appendNumber(b, n)
	}
	b = appendNumber(b, p.memory)
	b = appendNumber(b, p.locks)
	return string(appendNumber(b, p.prints))
}

// partsOf are the parts of a machine that has printed nothing.
func (w *walk) partsOf(m *source.Machine) parts {
	var p parts
	for thread := range w.unit.Graphs {
		p.threads = append(p.threads, w.names.number(threadText(m, thread)))
	}
	p.memory = w.names.number(memoryText(m))
	p.locks = w.names.number(w.locksText(m))
	p.prints = w.names.number(noPrints)
	return p
}

// partsBehind are the parts of a machine that was as p says, and has done an action.
func (w *walk) partsBehind(p parts, m *source.Machine, did api.Acted) parts {
	p.threads = slices.Clone(p.threads)
	p.threads[did.Thread] = w.names.number(threadText(m, did.Thread))
	switch did.Kind {
	case api.NodeStore, api.NodeSwap:
		p.memory = w.names.number(memoryText(m))
	case api.NodeLock, api.NodeUnlock:
		p.locks = w.names.number(w.locksText(m))
	case api.NodePrint:
		p.prints = w.names.number(printText(p.prints, api.Print{Thread: did.Thread, Word: did.Word}))
	}
	return p
}

func threadText(m *source.Machine, thread int) string {
	b := appendNumber(nil, m.At(thread))
	for _, w := range m.Slots(thread) {
		b = appendNumber(b, w)
	}
	return string(b)
}

func memoryText(m *source.Machine) string {
	var b []byte
	for _, w := range m.Memory() {
		b = appendNumber(b, w)
	}
	return string(b)
}

func (w *walk) locksText(m *source.Machine) string {
	var b []byte
	for lock := range w.unit.Locks {
		b = appendNumber(b, m.Holder(lock))
	}
	return string(b)
}

// noPrints is the text of what was printed at first; printText, behind one more: the number of what was ahead of it, and it.
const noPrints = "|"

func printText(ahead int, p api.Print) string {
	b := strconv.AppendInt(nil, int64(ahead), 10)
	b = strconv.AppendInt(append(b, '|'), int64(p.Thread), 10)
	b = strconv.AppendInt(append(b, ':'), p.Word, 10)
	return string(b)
}

func appendNumber[N int | int64](b []byte, n N) []byte {
	return append(strconv.AppendInt(b, int64(n), 10), ',')
}
