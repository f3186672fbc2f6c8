package regs

import (
	"stile/api"
	"stile/queue"
)

// places are those of a thread's slots, as they are given.
type places struct {
	weights []int
	clash   []set             // of each slot those with which it clashes: asked for by promote alone
	holders [api.FreeRegs]set // of each register the slots that have it
	of      []api.Place
	cells   int
}

func newPlaces(g api.Graph) *places {
	return &places{weights: weights(g), of: make([]api.Place, g.Slots)}
}

// keep gives each slot that counts a cell of its own.
func (p *places) keep() {
	for slot := range p.counted {
		p.giveCell(slot)
	}
}

// promote gives registers to the slots, as far as there are some, the heaviest first.
func (p *places) promote(f *flow) {
	p.clash = make([]set, len(p.of))
	for a, b := range f.clashes {
		p.clash[a].put(b)
		p.clash[b].put(a)
	}
	q := queue.New(p.isAhead)
	for slot := range p.counted {
		q.Put(slot)
	}
	for slot := range q.Each {
		p.give(slot)
	}
}

// counted yields the slots that need a place, rising.
func (p *places) counted(yield func(slot int) bool) {
	for slot, w := range p.weights {
		if w > 0 && !yield(slot) {
			return
		}
	}
}

func (p *places) isAhead(a, b int) bool {
	if p.weights[a] != p.weights[b] {
		return p.weights[a] > p.weights[b]
	}
	return a < b
}

func (p *places) give(slot int) {
	for reg := range p.holders {
		if p.holders[reg].both(&p.clash[slot]) == (set{}) {
			p.holders[reg].put(slot)
			p.of[slot] = api.Place{N: reg}
			return
		}
	}
	p.giveCell(slot)
}

func (p *places) giveCell(slot int) {
	p.of[slot] = api.Place{InCell: true, N: p.cells}
	p.cells++
}
