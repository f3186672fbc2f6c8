package dead

import (
	"slices"

	"stile/api"
)

// heirs are the nodes' heirs, where some of them, each of which leads to one node alone, need not be: but where they lead round in a ring, nothing else is there to go on at.
func heirs(nodes []api.Node, needless []int) []int {
	l := make([]int, len(nodes))
	for node := range l {
		l[node] = node
	}
	open := map[int]int{} // where those lead whose heirs are not known yet
	for _, node := range needless {
		open[node] = nodes[node].Next
	}
	for _, node := range needless {
		way, end := follow(open, node)
		// Those of the way that lie in a ring stay.
		if ring := slices.Index(way, end); ring >= 0 {
			way = way[:ring]
		}
		for _, from := range way {
			l[from] = l[end]
		}
	}
	return l
}

// follow goes from a node on as long as heirs are not known, and takes those by which it comes out: the heir of where it ends will be theirs.
func follow(open map[int]int, node int) (way []int, end int) {
	for {
		next, is := open[node]
		if !is {
			return way, node
		}
		delete(open, node)
		way = append(way, node)
		node = next
	}
}
