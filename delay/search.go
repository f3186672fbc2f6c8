package delay

import (
	"slices"

	"stile/api"
	"stile/cfg"
	"stile/queue"
	"stile/ways"
)

// unknown is the distance of a node that was not found.
const unknown = -1

// search goes through a thread's nodes, the nearest first: far is of each node how far it is from where the search began. It finds drains, and goes on from all but these.
type search struct {
	t   *ways.Thread
	far []int
}

// behindStores are the nodes to which an open way leads from some open store; behind, from one.
func behindStores(t *ways.Thread) *search {
	var first []int
	for _, from := range t.Nodes(ways.OpenStore) {
		first = append(first, t.Behind(from)...)
	}
	return look(t, first, t.Behind)
}

func behind(t *ways.Thread, from int) *search { return look(t, t.Behind(from), t.Behind) }

// ahead are the nodes from which a way leads to a racy load.
func ahead(t *ways.Thread, g api.Graph, to int) *search {
	links := cfg.Ahead(g)
	return look(t, []int{to}, func(node int) []int { return links[node] })
}

// look begins with some nodes, and goes from each to those that on tells.
func look(t *ways.Thread, first []int, on func(node int) []int) *search {
	x := &search{t, slices.Repeat([]int{unknown}, t.Count())}
	next := queue.New(x.nearer)
	x.find(first, 0, next)
	for node := range next.Each {
		x.find(on(node), x.far[node]+1, next)
	}
	return x
}

func (x *search) nearer(a, b int) bool { return x.far[a] < x.far[b] }

func (x *search) find(nodes []int, far int, next *queue.Queue) {
	for _, node := range nodes {
		if x.far[node] != unknown || x.t.Fenced(node) {
			continue
		}
		x.far[node] = far
		if !x.t.Is(node, ways.Drain) {
			next.Put(node)
		}
	}
}

// loads are the racy loads that were found.
func (x *search) loads() []int {
	return slices.DeleteFunc(x.t.Nodes(ways.RacyLoad), func(node int) bool { return x.far[node] == unknown })
}

// wayFrom is the shortest way from a node to where a search ahead of a racy load began, by the least nodes; none, if the node was not found.
func (x *search) wayFrom(node int) []int {
	if x.far[node] == unknown {
		return nil
	}
	l := []int{node}
	for x.far[node] > 0 {
		node = x.nearerBy(node)
		l = append(l, node)
	}
	return l
}

// nearerBy is the least node behind one that is a step nearer, and from which a way goes on.
func (x *search) nearerBy(node int) int {
	l := x.t.Behind(node)
	return l[slices.IndexFunc(l, func(to int) bool {
		return x.far[to] == x.far[node]-1 && !x.t.Is(to, ways.Drain)
	})]
}
