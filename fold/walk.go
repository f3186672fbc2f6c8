package fold

import (
	"stile/api"
	"stile/cfg"
)

// walk goes through a thread's reached nodes, as what is known is handed on: facts are those ahead of the node at which it stands. Heads are those ahead of which nothing is known; to all others one edge leads.
type walk struct {
	nodes   []api.Node
	classes []api.Class
	heads   []int
	isOnly  []bool
	rules   [api.OpCount]rule
	facts   *facts
}

func newWalk(g api.Graph, classes []api.Class) *walk {
	w := &walk{nodes: g.Nodes, classes: classes, rules: rules(), facts: newFacts()}
	reached := cfg.Reached(g)
	for node, links := range cfg.Ahead(g) {
		edges := 0
		for _, from := range links {
			if reached[from] {
				edges++
			}
		}
		isOnly := edges == 1 && node != 0
		w.isOnly = append(w.isOnly, isOnly)
		if reached[node] && !isOnly {
			w.heads = append(w.heads, node)
		}
	}
	return w
}

// each hands on each reached node, folded, with its number.
func (w *walk) each(look func(node int, n api.Node)) {
	for _, node := range w.heads {
		w.from(node, look)
	}
}

// from hands on a node, and those that lie behind it by edges that are the only ones; then nothing more is known than was ahead of it.
func (w *walk) from(node int, look func(node int, n api.Node)) {
	ahead := w.facts.now()
	n := w.folded(w.nodes[node])
	look(node, n)
	w.do(n)
	to := w.nodes[node]
	switch {
	case to.Kind == api.NodeEnd:
	case to.Kind == api.NodeBranch && to.Else != to.Next:
		w.along(to.Next, look)
		if n.A.IsSlot {
			w.facts.learn(slotSubject(n.A.Slot), api.Value{})
		}
		w.along(to.Else, look)
	default:
		w.along(to.Next, look)
	}
	w.facts.back(ahead)
}

func (w *walk) along(to int, look func(node int, n api.Node)) {
	if w.isOnly[to] {
		w.from(to, look)
	}
}

// folded is a node with what is known ahead of it.
func (w *walk) folded(n api.Node) api.Node {
	n.A, n.B = w.facts.putIn(n.A), w.facts.putIn(n.B)
	switch n.Kind {
	case api.NodeSet:
		if v, is := w.rules[n.Op].reckoned(n.Op, n.A, n.B); is {
			n.Op, n.A, n.B = api.OpNone, v, api.Value{}
		}
	case api.NodeLoad:
		if v, is := w.facts.of(thingSubject(n.Thing)); is {
			return api.Node{Kind: api.NodeSet, Slot: n.Slot, A: v, Next: n.Next, Origin: n.Origin}
		}
	case api.NodeBranch:
		if n.A.IsSlot {
			break
		}
		if n.A.Word == 0 {
			n.Next = n.Else
		}
		n.Else = n.Next
	}
	return n
}

// do notes what a folded node changes.
func (w *walk) do(n api.Node) {
	own := api.Value{IsSlot: true, Slot: n.Slot}
	switch n.Kind {
	case api.NodeSet:
		w.facts.set(n.Slot)
		if n.Op == api.OpNone && n.A != own {
			w.facts.learn(slotSubject(n.Slot), n.A)
		}
	case api.NodeLoad:
		w.facts.set(n.Slot)
		w.put(n.Thing, own)
	case api.NodeStore:
		w.put(n.Thing, n.A)
	case api.NodeSwap:
		w.facts.set(n.Slot)
		if n.A == own {
			w.facts.forget(n.Thing)
		} else {
			w.put(n.Thing, n.A)
		}
	case api.NodeLock, api.NodeUnlock:
		w.handOver()
	}
}

// put notes what a variable has, if nobody else can change it meanwhile.
func (w *walk) put(thing int, v api.Value) {
	switch w.classes[thing].Kind {
	case api.ClassPrivate, api.ClassGuarded:
		w.facts.learn(thingSubject(thing), v)
	}
}

// handOver forgets what others may change, where a lock is taken or given back.
func (w *walk) handOver() {
	for thing, c := range w.classes {
		if c.Kind == api.ClassGuarded {
			w.facts.forget(thing)
		}
	}
}
