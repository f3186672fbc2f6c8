package dead

import (
	"slices"

	"stile/api"
	"stile/cfg"
	"stile/source"
)

// thread is a thread of which nodes are left out bit by bit: its nodes lead past those.
type thread struct {
	number int
	first  int
	nodes  []api.Node
	stays  []bool // whether a node is reached, and not left out so far
	spare  []bool // whether what a node sets or stores nobody asks for behind it
	habits [api.NodeCount]habit
	flow   *flow
}

func newThread(u api.Unit, number int) *thread {
	g := u.Graphs[number]
	t := &thread{
		number: number,
		nodes:  slices.Clone(g.Nodes),
		stays:  cfg.Reached(g),
		spare:  make([]bool, len(g.Nodes)),
		habits: habits(len(u.Shared)),
		flow:   newFlow(u, number),
	}
	for _, x := range slices.Concat(t.flow.slots, t.flow.things) {
		t.look(x)
	}
	return t
}

// look tells anew which nodes cover a slot or a variable to no end.
func (t *thread) look(x use) {
	if len(x.cover) == 0 {
		return
	}
	wanted := t.flow.wanted(x)
	for _, node := range x.cover {
		t.spare[node] = !wanted[t.nodes[node].Next]
	}
}

// heirs are the nodes' heirs: of one that is idle another node, of all others they themselves.
func (t *thread) heirs(classes []api.Class) []int {
	var l []int
	for node, is := range t.stays {
		if is && t.isNeedless(node, classes) {
			l = append(l, node)
		}
	}
	return heirs(t.nodes, l)
}

// isNeedless tells whether a node does nothing that anybody can tell; it is idle, then, if it does not lead back to itself by such nodes.
func (t *thread) isNeedless(node int, classes []api.Class) bool {
	n := t.nodes[node]
	switch n.Kind {
	case api.NodeSet:
		return t.spare[node] || n.Op == api.OpNone && n.A == api.Value{IsSlot: true, Slot: n.Slot}
	case api.NodeLoad:
		return t.spare[node] && !source.Visible(classes, n)
	case api.NodeStore:
		return t.spare[node] && isOwn(classes[n.Thing], t.number)
	case api.NodeBranch:
		return n.Next == n.Else
	}
	return false
}

// leave leaves out the nodes that have an heir: it answers them.
func (t *thread) leave(heirs []int) []api.Node {
	var out []api.Node
	for node, heir := range heirs {
		if heir != node {
			out = append(out, t.nodes[node])
			t.stays[node], t.flow.gone[node] = false, true
		}
	}
	if len(out) == 0 {
		return nil
	}
	t.first = heirs[t.first]
	for node := range t.nodes {
		lead(&t.nodes[node], heirs)
	}
	for _, n := range out {
		h := t.habits[n.Kind]
		for _, slot := range h.reads(n) {
			t.look(t.flow.slots[slot])
		}
		for _, thing := range h.shows(n) {
			t.look(t.flow.things[thing])
		}
	}
	return out
}

// left are the nodes that stay, in new places: where the thread begins first, the others in the order in which they stood.
func (t *thread) left() []api.Node {
	order := []int{t.first}
	for node, is := range t.stays {
		if is && node != t.first {
			order = append(order, node)
		}
	}
	places := make([]int, len(t.nodes))
	for at, node := range order {
		places[node] = at
	}
	var l []api.Node
	for _, node := range order {
		n := t.nodes[node]
		lead(&n, places)
		l = append(l, n)
	}
	return l
}

// lead has a node lead to others in the place of those to which it led.
func lead(n *api.Node, to []int) {
	if n.Kind != api.NodeEnd {
		n.Next = to[n.Next]
	}
	if n.Kind == api.NodeBranch {
		n.Else = to[n.Else]
	}
}
