package regs

import (
	"slices"

	"stile/api"
	"stile/cfg"
)

// maxDepth is of how many loops a weight takes notice.
const maxDepth = 4

// flow is a graph with the slots that are live ahead of each of its nodes: none where nobody comes.
type flow struct {
	nodes   []api.Node
	reached []bool
	ahead   [][]int
	live    []set
}

func newFlow(g api.Graph) *flow {
	f := &flow{g.Nodes, cfg.Reached(g), cfg.Ahead(g), make([]set, len(g.Nodes))}
	for node, is := range f.reached {
		if !is {
			continue
		}
		for _, slot := range used(g.Nodes[node]) {
			f.grow(node, slot)
		}
	}
	return f
}

// grow notes that a slot is live ahead of a node, and ahead of all from which one comes to it without defining the slot.
func (f *flow) grow(node, slot int) {
	open := []int{node}
	for len(open) > 0 {
		at := open[len(open)-1]
		open = open[:len(open)-1]
		if f.live[at].has(slot) {
			continue
		}
		f.live[at].put(slot)
		for _, from := range f.ahead[at] {
			own, is := defined(f.nodes[from])
			if f.reached[from] && !(is && own == slot) {
				open = append(open, from)
			}
		}
	}
}

// clashes yields the pairs of slots that clash: one that a node defines, and one that is live behind it. A pair may come again, either way about.
func (f *flow) clashes(yield func(a, b int) bool) {
	for node, is := range f.reached {
		own, defines := defined(f.nodes[node])
		if !is || !defines {
			continue
		}
		for other := range f.live[f.nodes[node].Next].each {
			if other != own && !yield(own, other) {
				return
			}
		}
	}
}

// weights are those of all slots of a graph.
func weights(g api.Graph) []int {
	l := make([]int, g.Slots)
	depth := cfg.Depth(g)
	for node, is := range cfg.Reached(g) {
		if !is {
			continue
		}
		n := g.Nodes[node]
		slots := used(n)
		if own, defines := defined(n); defines && !slices.Contains(slots, own) {
			slots = append(slots, own)
		}
		for _, slot := range slots {
			l[slot] += 1 << (3 * min(depth[node], maxDepth))
		}
	}
	return l
}

// used are the slots that a right node uses, each once: what its kind does not use is zero, and so no slot.
func used(n api.Node) []int {
	var l []int
	for _, v := range [...]api.Value{n.A, n.B} {
		if v.IsSlot && !slices.Contains(l, v.Slot) {
			l = append(l, v.Slot)
		}
	}
	return l
}

// defined is the slot that a node defines, if it does.
func defined(n api.Node) (int, bool) {
	switch n.Kind {
	case api.NodeSet, api.NodeLoad, api.NodeSwap:
		return n.Slot, true
	}
	return 0, false
}
