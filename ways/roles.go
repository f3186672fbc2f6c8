package ways

import (
	"stile/api"
	"stile/cfg"
	"stile/lockset"
)

// Role is what a node is to stores that wait.
type Role uint8

const (
	None      Role = iota
	OpenStore      // leaves a store that waits, which others may see
	RacyLoad       // reads what others may write
	Drain          // waits till no store waits
)

// rolesOf tells what each node of a right unit's thread is; one that is not reached is nothing.
func rolesOf(u api.Unit, thread int) []Role {
	classes, _ := lockset.Classes(u)
	tell := teller{classes}.table()
	g := u.Graphs[thread]
	l := make([]Role, len(g.Nodes))
	for node, is := range cfg.Reached(g) {
		if n := g.Nodes[node]; is && tell[n.Kind] != nil {
			l[node] = tell[n.Kind](n)
		}
	}
	return l
}

// teller tells what nodes are, by the classes of the variables that they touch.
type teller struct{ classes []api.Class }

// table has, of each kind of nodes that may be something, what tells what one is.
func (x teller) table() [api.NodeCount]func(n api.Node) Role {
	return [api.NodeCount]func(n api.Node) Role{
		api.NodeStore:  x.store,
		api.NodeLoad:   x.load,
		api.NodeUnlock: x.unlock,
		api.NodeSwap:   x.drain,
		api.NodeLock:   x.drain,
		api.NodePrint:  x.drain,
	}
}

func (x teller) store(n api.Node) Role { return x.ifRacy(n, OpenStore) }

func (x teller) load(n api.Node) Role { return x.ifRacy(n, RacyLoad) }

func (x teller) ifRacy(n api.Node, role Role) Role {
	if x.classes[n.Thing].Kind == api.ClassRacy {
		return role
	}
	return None
}

// unlock: a lock is given back by a plain store, which waits as others do.
func (teller) unlock(api.Node) Role { return OpenStore }

func (teller) drain(api.Node) Role { return Drain }
