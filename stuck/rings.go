package stuck

import (
	"slices"

	"stile/api"
	"stile/sites"
	"stile/source"
)

// leads tells of each lock to which ones an edge leads from it.
type leads map[int]sites.Set

func leadsOf(edges []api.Edge) leads {
	x := leads{}
	for _, e := range edges {
		x[e.Held] = x[e.Held].With(e.Taken)
	}
	return x
}

// back is the shortest way from a lock back to it, without its end, of these the least; none, if there is none. What was come to first is gone on from first.
func (x leads) back(first int) []int {
	came := map[int]int{first: first}
	queue := []int{first}
	for at := 0; at < len(queue); at++ {
		for _, lock := range x[queue[at]].List() {
			if lock == first {
				return wayTo(queue[at], came)
			}
			if _, is := came[lock]; !is {
				came[lock] = queue[at]
				queue = append(queue, lock)
			}
		}
	}
	return nil
}

// wayTo is how a lock was come to, from the one that was come to from itself.
func wayTo(lock int, came map[int]int) []int {
	way := []int{lock}
	for came[lock] != lock {
		lock = came[lock]
		way = append(way, lock)
	}
	slices.Reverse(way)
	return way
}

// waits tells who waits for whom.
type waits struct {
	unit    api.Unit
	machine *source.Machine
}

// nobody is for whom a thread waits that does not wait.
const nobody = -1

// whom is for whom a thread waits: a lock that is free has no holder.
func (x waits) whom(thread int) int {
	n := x.unit.Graphs[thread].Nodes[x.machine.At(thread)]
	if n.Kind != api.NodeLock {
		return nobody
	}
	return x.machine.Holder(n.Thing)
}

// knotOf is the knot with the least thread, by for whom each waits; none, if there is none.
func knotOf(threads int, whom func(thread int) int) []int {
	for first := range threads {
		knot := []int{first}
		next := whom(first)
		for next != nobody && next != first && len(knot) < threads {
			knot = append(knot, next)
			next = whom(next)
		}
		if next == first {
			return knot
		}
	}
	return nil
}
