package dead

import (
	"stile/api"
	"stile/lockset"
	"stile/sites"
)

// sweep is a unit of which nodes are left out: so variables may come to have fewer users, and other classes.
type sweep struct {
	threads []*thread
	classes []api.Class
	users   [][api.MaxThreads]int // of each variable, by how many nodes each thread touches it
}

func newSweep(u api.Unit) *sweep {
	x := &sweep{users: make([][api.MaxThreads]int, len(u.Shared))}
	x.classes, _ = lockset.Classes(u)
	for thread := range u.Graphs {
		x.threads = append(x.threads, newThread(u, thread))
	}
	for s := range sites.Each(u) {
		if s.Touches() {
			x.users[s.Node.Thing][s.At.Thread]++
		}
	}
	return x
}

// once leaves out all nodes that are idle: how many.
func (x *sweep) once() int {
	// All are found before any is left out: what one thread leaves may make others' nodes idle, but not before the next time.
	var all [][]int
	for _, t := range x.threads {
		all = append(all, t.heirs(x.classes))
	}
	count := 0
	for thread, heirs := range all {
		for _, n := range x.threads[thread].leave(heirs) {
			x.untouch(thread, n)
			count++
		}
	}
	return count
}

// untouch: one node fewer of a thread touches what a node touched that is left out. It is no racy one: those stay.
func (x *sweep) untouch(thread int, n api.Node) {
	switch n.Kind {
	case api.NodeLoad, api.NodeStore:
		x.users[n.Thing][thread]--
		x.classes[n.Thing] = x.fewer(n.Thing)
	}
}

// fewer is the class of a variable that may have lost users: a lock that guards it still does.
func (x *sweep) fewer(thing int) api.Class {
	c := api.Class{Kind: api.ClassUnused}
	for thread, nodes := range x.users[thing] {
		switch {
		case nodes == 0:
		case c.Kind == api.ClassPrivate:
			return x.classes[thing]
		default:
			c = api.Class{Kind: api.ClassPrivate, Thread: thread}
		}
	}
	return c
}

func (x *sweep) left(thread int) []api.Node { return x.threads[thread].left() }
