package cfg

import (
	"slices"

	"stile/api"
)

// pile is a list of held locks: one on top of the pile below, which has that number. Like lists have one number, so that they are held against each other at once.
type pile struct{ below, lock int }

// nest goes through a graph with the locks that are held: found are the nodes, each with the number of the pile ahead of it as it was found, in that order.
type nest struct {
	g       api.Graph
	found   map[int]int
	order   []int
	piles   []pile
	numbers map[pile]int
}

// empty is the number of the pile of no lock.
const empty = 0

func newNest(g api.Graph) *nest {
	return &nest{g: g, found: map[int]int{}, piles: []pile{{}}, numbers: map[pile]int{}}
}

// walk is the first node at fault; -1, if the locks are well nested.
func (x *nest) walk() int {
	x.meet(0, empty)
	for i := 0; i < len(x.order); i++ {
		node := x.order[i]
		n := x.g.Nodes[node]
		held, ok := x.past(n, x.found[node])
		if !ok {
			return node
		}
		for _, to := range behind(n) {
			if !x.meet(to, held) {
				return to
			}
		}
	}
	return -1
}

// meet comes to a node; false, if it was found with another pile.
func (x *nest) meet(node, held int) bool {
	had, is := x.found[node]
	if !is {
		x.found[node] = held
		x.order = append(x.order, node)
		return true
	}
	return had == held
}

// past is what is held behind a node; false, if it may not stand where that is held.
func (x *nest) past(n api.Node, held int) (int, bool) {
	switch n.Kind {
	case api.NodeLock:
		return x.on(held, n.Thing), true
	case api.NodeUnlock:
		top := x.piles[held]
		return top.below, held != empty && top.lock == n.Thing
	case api.NodeEnd:
		return held, held == empty
	}
	return held, true
}

func (x *nest) on(below, lock int) int {
	p := pile{below, lock}
	number, is := x.numbers[p]
	if !is {
		number = len(x.piles)
		x.piles = append(x.piles, p)
		x.numbers[p] = number
	}
	return number
}

// list is a pile's locks, the last taken last.
func (x *nest) list(number int) []int {
	var l []int
	for ; number != empty; number = x.piles[number].below {
		l = append(l, x.piles[number].lock)
	}
	slices.Reverse(l)
	return l
}
