// Package ways tells what a thread's nodes are to stores that wait, and where such a store may go on waiting: for delay and fences.
package ways

import (
	"slices"

	"stile/api"
)

// Thread is a thread with its fences.
type Thread struct {
	roles  []Role
	fenced []bool
	behind [][]int
}

// New is a right unit's thread, with fences ahead of some of its nodes.
func New(u api.Unit, thread int, fences []int) *Thread {
	nodes := u.Graphs[thread].Nodes
	t := &Thread{roles: rolesOf(u, thread), fenced: make([]bool, len(nodes))}
	for _, n := range nodes {
		t.behind = append(t.behind, behind(n))
	}
	for _, node := range fences {
		t.Fence(node)
	}
	return t
}

func behind(n api.Node) []int {
	switch {
	case n.Kind == api.NodeEnd:
		return nil
	case n.Kind == api.NodeBranch && n.Else != n.Next:
		return []int{min(n.Next, n.Else), max(n.Next, n.Else)}
	}
	return []int{n.Next}
}

// Count is how many nodes there are.
func (t *Thread) Count() int { return len(t.roles) }

// Fence puts a fence ahead of a node; Lift takes it away.
func (t *Thread) Fence(node int) { t.fenced[node] = true }

func (t *Thread) Lift(node int) { t.fenced[node] = false }

// Fenced tells whether a fence stands ahead of a node.
func (t *Thread) Fenced(node int) bool { return t.fenced[node] }

// Is tells whether a node is something to stores that wait.
func (t *Thread) Is(node int, role Role) bool { return t.roles[node] == role }

// Nodes are all that are one thing, rising.
func (t *Thread) Nodes(role Role) []int {
	var l []int
	for node, is := range t.roles {
		if is == role {
			l = append(l, node)
		}
	}
	return l
}

// Behind are the nodes to which one comes from one, rising, each once.
func (t *Thread) Behind(node int) []int { return slices.Clone(t.behind[node]) }
