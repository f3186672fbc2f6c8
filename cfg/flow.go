package cfg

import (
	"slices"

	"stile/api"
)

// behind are the nodes to which one comes from a node, Next first, each once.
func behind(n api.Node) []int {
	switch {
	case n.Kind == api.NodeEnd:
		return nil
	case n.Kind == api.NodeBranch && n.Else != n.Next:
		return []int{n.Next, n.Else}
	}
	return []int{n.Next}
}

// flow is how one comes through a graph. Its reached nodes have places, in the order of a walk that goes on from the node found last as long as it can: so what dominates a node has a lesser place.
type flow struct {
	order []int   // of each place its node
	up    []int   // of each place the one from which the walk came; -1 of the first
	ahead [][]int // of each place those from which one comes to it
}

// way is a step of the walk: from a place to a node.
type way struct{ from, node int }

func newFlow(g api.Graph) *flow {
	f := &flow{}
	places := slices.Repeat([]int{-1}, len(g.Nodes))
	open := []way{{-1, 0}}
	for len(open) > 0 {
		w := open[len(open)-1]
		open = open[:len(open)-1]
		if places[w.node] >= 0 {
			continue
		}
		at := len(f.order)
		places[w.node] = at
		f.order = append(f.order, w.node)
		f.up = append(f.up, w.from)
		for _, to := range behind(g.Nodes[w.node]) {
			open = append(open, way{at, to})
		}
	}
	f.ahead = make([][]int, len(f.order))
	for at, node := range f.order {
		for _, to := range behind(g.Nodes[node]) {
			f.ahead[places[to]] = append(f.ahead[places[to]], at)
		}
	}
	return f
}

// least is, of each place but the first, the least place from which a way leads to it that has only greater places than it between. (A dominator of it has no greater place than that: else the way would go round it.)
func (f *flow) least() []int {
	l := make([]int, len(f.order))
	for at := len(l) - 1; at > 0; at-- {
		l[at] = f.up[at]
		for _, from := range f.ahead[at] {
			for ; from > at; from = f.up[from] {
				l[at] = min(l[at], l[from])
			}
			l[at] = min(l[at], from)
		}
	}
	return l
}

// dominators are the places of the next dominators; -1 of the first place. That of a place is the first one not above its least, up the next dominators from where the walk came.
func (f *flow) dominators() []int {
	least := f.least()
	next := slices.Clone(f.up)
	for at := 1; at < len(next); at++ {
		for next[at] > least[at] {
			next[at] = next[next[at]]
		}
	}
	return next
}

// depth is of each place in how many loops it lies.
func (f *flow) depth() []int {
	next := f.dominators()
	l := make([]int, len(f.order))
	for head := range f.order {
		for _, at := range f.loop(head, f.ends(head, next)) {
			l[at]++
		}
	}
	return l
}

// ends are the places from which one comes back to a head: ahead of it, and dominated by it.
func (f *flow) ends(head int, next []int) []int {
	var l []int
	for _, from := range f.ahead[head] {
		at := from
		for at > head {
			at = next[at]
		}
		if at == head {
			l = append(l, from)
		}
	}
	return l
}

// loop are the places of a head's loop; none, if nothing comes back to it.
func (f *flow) loop(head int, ends []int) []int {
	if len(ends) == 0 {
		return nil
	}
	in := make([]bool, len(f.order))
	in[head] = true
	l := []int{head}
	open := ends
	for len(open) > 0 {
		at := open[len(open)-1]
		open = open[:len(open)-1]
		if in[at] {
			continue
		}
		in[at] = true
		l = append(l, at)
		open = append(open, f.ahead[at]...)
	}
	return l
}
