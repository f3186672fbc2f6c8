package dead

import (
	"slices"

	"stile/api"
	"stile/cfg"
)

// flow is where slots and variables are asked for, and covered, in a graph. A node that is gone does neither, and one goes on through it: so the links are as they were at first.
type flow struct {
	ahead  [][]int
	gone   []bool
	slots  []use
	things []use
}

// use is which nodes ask for a slot or a variable, and which cover it.
type use struct{ ask, cover []int }

func newFlow(u api.Unit, thread int) *flow {
	g := u.Graphs[thread]
	f := &flow{
		ahead:  cfg.Ahead(g),
		gone:   make([]bool, len(g.Nodes)),
		slots:  make([]use, g.Slots),
		things: make([]use, len(u.Shared)),
	}
	table := habits(len(u.Shared))
	for node, n := range g.Nodes {
		h := table[n.Kind]
		for _, slot := range h.reads(n) {
			f.slots[slot].ask = append(f.slots[slot].ask, node)
		}
		for _, slot := range h.sets(n) {
			f.slots[slot].cover = append(f.slots[slot].cover, node)
		}
		for _, thing := range h.shows(n) {
			f.things[thing].ask = append(f.things[thing].ask, node)
		}
		for _, thing := range h.covers(n) {
			f.things[thing].cover = append(f.things[thing].cover, node)
		}
	}
	return f
}

// wanted tells ahead of which nodes a thing is asked for: at them, or, where they do not cover it, behind them.
func (f *flow) wanted(x use) []bool {
	l := make([]bool, len(f.gone))
	var grown []int
	for _, node := range f.there(x.ask) {
		l[node] = true
		grown = append(grown, node)
	}
	covers := make([]bool, len(f.gone))
	for _, node := range f.there(x.cover) {
		covers[node] = true
	}
	for len(grown) > 0 {
		node := grown[len(grown)-1]
		grown = grown[:len(grown)-1]
		for _, from := range f.ahead[node] {
			if !l[from] && !covers[from] {
				l[from] = true
				grown = append(grown, from)
			}
		}
	}
	return l
}

// there are those of some nodes that are not gone.
func (f *flow) there(nodes []int) []int {
	return slices.DeleteFunc(slices.Clone(nodes), func(node int) bool { return f.gone[node] })
}

// table tells of each node, of each of some things, whether it counts and is wanted ahead of the node.
func (f *flow) table(uses []use, counts func(number int) bool) [][]bool {
	l := make([][]bool, len(f.gone))
	for node := range l {
		l[node] = make([]bool, len(uses))
	}
	for number, x := range uses {
		if !counts(number) {
			continue
		}
		for node, is := range f.wanted(x) {
			l[node][number] = is
		}
	}
	return l
}
