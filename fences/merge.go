package fences

import (
	"slices"

	"stile/api"
	"stile/cfg"
	"stile/queue"
	"stile/ways"
)

// merger takes fences of a thread away: depth is of each node in how many loops it lies.
type merger struct {
	t     *ways.Thread
	depth []int
}

// needful are those of a thread's fences that stay, where they stand ahead of racy loads, and leave none open.
func needful(u api.Unit, thread int, fences []int) []int {
	x := &merger{ways.New(u, thread, fences), cfg.Depth(u.Graphs[thread])}
	next := queue.New(x.dearer)
	for _, node := range fences {
		next.Put(node)
	}
	var l []int
	for node := range next.Each {
		if x.stays(node) {
			l = append(l, node)
		}
	}
	slices.Sort(l)
	return l
}

func (x *merger) dearer(a, b int) bool {
	if x.depth[a] != x.depth[b] {
		return x.depth[a] > x.depth[b]
	}
	return a > b
}

// stays takes a fence away, but puts it back, if it is needed. No load is open with it: so the ways to one that is open without it go by its node, and this one, which is a racy load itself, is open then.
func (x *merger) stays(node int) bool {
	x.t.Lift(node)
	if len(wayTo(x.t, node)) == 0 {
		return false
	}
	x.t.Fence(node)
	return true
}
