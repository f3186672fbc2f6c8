package order

import (
	"iter"

	"stile/api"
	"stile/vm"
)

// played yields what steps do, those that are OK, and then what it does to drain all buffers, core by core.
func played(m *vm.Machine, l []api.Step) iter.Seq[api.Did] {
	return func(yield func(d api.Did) bool) {
		for _, s := range l {
			if d, why := m.Step(s); why == api.OK && !yield(d) {
				return
			}
		}
		for core := range m.Cores() {
			for d, _ := m.Drain(core); d.Kind == api.DidDrain; d, _ = m.Drain(core) {
				if !yield(d) {
					return
				}
			}
		}
	}
}

// gatherer puts an execution together, as steps are done.
type gatherer struct {
	x       api.Execution
	waiting [api.MaxThreads][]int // of each core the events whose stores wait, the oldest first
}

func newGatherer(first []int64) *gatherer {
	return &gatherer{x: api.Execution{First: first, After: make([][]int, len(first))}}
}

func (g *gatherer) add(d api.Did) {
	switch d.Kind {
	case api.DidLoad:
		g.event(d, api.Deed{Kind: api.DeedRead, Thing: d.Addr, Saw: d.Word}, g.seen(d))
	case api.DidStore:
		at := g.event(d, api.Deed{Kind: api.DeedWrite, Thing: d.Addr, Put: d.Word}, none)
		g.waiting[d.Core] = append(g.waiting[d.Core], at)
	case api.DidSwap:
		at := g.event(d, api.Deed{Kind: api.DeedBoth, Thing: d.Addr, Saw: d.Word, Put: d.Put}, g.seen(d))
		g.arrive(d.Addr, at)
	case api.DidFence, api.DidPrint:
		g.event(d, api.Deed{Kind: api.DeedFence}, none)
	case api.DidDrain:
		at := g.waiting[d.Core][0]
		g.waiting[d.Core] = g.waiting[d.Core][1:]
		g.arrive(d.Addr, at)
	}
}

// event puts an event in, by the core of a Did: its number.
func (g *gatherer) event(d api.Did, e api.Deed, from int) int {
	e.Thread = d.Core
	g.x.Events = append(g.x.Events, e)
	g.x.From = append(g.x.From, from)
	return len(g.x.Events) - 1
}

// arrive has what an event writes come to memory.
func (g *gatherer) arrive(thing, at int) { g.x.After[thing] = append(g.x.After[thing], at) }

// seen is the event that wrote what a Did has read.
func (g *gatherer) seen(d api.Did) int {
	if d.Own {
		return g.lastStore(d.Core, d.Addr)
	}
	l := g.x.After[d.Addr]
	if len(l) == 0 {
		return none
	}
	return l[len(l)-1]
}

// lastStore is the newest store of a core to a thing, which waits: so nothing else that the core wrote there is newer.
func (g *gatherer) lastStore(core, thing int) int {
	for i := len(g.waiting[core]) - 1; i >= 0; i-- {
		if at := g.waiting[core][i]; g.x.Events[at].Thing == thing {
			return at
		}
	}
	return none
}
