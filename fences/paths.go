package fences

import (
	"slices"

	"stile/ways"
)

// wayBy is the shortest open way from an open store to a racy load that comes by a node, of several the one with the least nodes; none, if there is none.
func wayBy(t *ways.Thread, node int) []int {
	to := wayTo(t, node)
	// The two parts do not hang on one another: the shortest way has each as short as it can be, and comes by the node once.
	switch {
	case len(to) == 0 || t.Is(node, ways.RacyLoad):
		return to
	case t.Is(node, ways.Drain):
		return nil
	}
	on := shortest(t, []int{node}, func(n int) bool { return t.Is(n, ways.RacyLoad) })
	if len(on) == 0 {
		return nil
	}
	return append(to, on[1:]...)
}

// wayTo is the shortest open way from an open store to a node.
func wayTo(t *ways.Thread, node int) []int {
	return shortest(t, t.Nodes(ways.OpenStore), func(n int) bool { return n == node })
}

// From where one comes to a node that was not found, and to the first one of a way.
const (
	unfound = -1
	nowhere = -2
)

// shortest is the shortest way from one of some rising nodes, of several the one with the least nodes. Nodes stand in the queue in the order of the least ways to them: so the first one from which a step leads to the goal is the right one.
func shortest(t *ways.Thread, from []int, isGoal func(node int) bool) []int {
	came := slices.Repeat([]int{unfound}, t.Count())
	for _, node := range from {
		came[node] = nowhere
	}
	next := slices.Clone(from)
	for i := 0; i < len(next); i++ {
		for _, to := range t.Behind(next[i]) {
			switch {
			case t.Fenced(to):
			case isGoal(to):
				return append(trail(came, next[i]), to)
			case came[to] == unfound && !t.Is(to, ways.Drain):
				came[to] = next[i]
				next = append(next, to)
			}
		}
	}
	return nil
}

// trail is the way that led to a node.
func trail(came []int, node int) []int {
	var l []int
	for ; node != nowhere; node = came[node] {
		l = append(l, node)
	}
	slices.Reverse(l)
	return l
}
