// Package sites: the nodes to which a unit's threads come, each with the locks that are held ahead of it.
package sites

import (
	"iter"

	"stile/api"
	"stile/cfg"
)

// Site is a node that is reached.
type Site struct {
	At   api.Access
	Node api.Node
	Held Set
}

// Each yields the sites of a right unit, by rising thread, then node.
func Each(u api.Unit) iter.Seq[Site] {
	return func(yield func(Site) bool) {
		for thread := range u.Graphs {
			for s := range Thread(u, thread) {
				if !yield(s) {
					return
				}
			}
		}
	}
}

// Thread yields the sites of a right unit's thread, by rising node.
func Thread(u api.Unit, thread int) iter.Seq[Site] {
	return func(yield func(Site) bool) {
		g := u.Graphs[thread]
		held, _ := cfg.Held(g)
		for node, is := range cfg.Reached(g) {
			at := api.Access{Thread: thread, Node: node}
			if is && !yield(Site{at, g.Nodes[node], setOf(held[node])}) {
				return
			}
		}
	}
}

// Reads tells whether a node reads a shared variable; Writes, whether it writes one; Touches, whether it does either.
func (s Site) Reads() bool {
	return s.Node.Kind == api.NodeLoad || s.Node.Kind == api.NodeSwap
}

func (s Site) Writes() bool {
	return s.Node.Kind == api.NodeStore || s.Node.Kind == api.NodeSwap
}

func (s Site) Touches() bool { return s.Reads() || s.Writes() }
