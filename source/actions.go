package source

import (
	"stile/api"
	"stile/words"
)

// action does what a node says, behind whose thread stands at Next already, and tells of it what its node does not say.
type action func(m *Machine, n api.Node, did *api.Acted)

// actions are those of each kind of nodes; a NodeEnd has none, as its thread can't step.
func actions() [api.NodeCount]action {
	return [api.NodeCount]action{
		api.NodeSet:    (*Machine).set,
		api.NodeLoad:   (*Machine).load,
		api.NodeStore:  (*Machine).store,
		api.NodeSwap:   (*Machine).swap,
		api.NodeLock:   (*Machine).lock,
		api.NodeUnlock: (*Machine).unlock,
		api.NodePrint:  (*Machine).print,
		api.NodeBranch: (*Machine).branch,
	}
}

func (m *Machine) set(n api.Node, did *api.Acted) {
	w := m.value(did.Thread, n.A)
	switch {
	case words.Two(n.Op):
		w, _ = words.Do(n.Op, w, m.value(did.Thread, n.B))
	case n.Op != api.OpNone:
		w, _ = words.One(n.Op, w)
	}
	did.Word = w
	m.put(did.Thread, n.Slot, w)
}

func (m *Machine) load(n api.Node, did *api.Acted) {
	did.Word = m.memory[n.Thing]
	m.put(did.Thread, n.Slot, did.Word)
}

func (m *Machine) store(n api.Node, did *api.Acted) {
	did.Word = m.value(did.Thread, n.A)
	m.memory[n.Thing] = did.Word
}

func (m *Machine) swap(n api.Node, did *api.Acted) {
	did.Put = m.value(did.Thread, n.A)
	m.load(n, did)
	m.memory[n.Thing] = did.Put
}

func (m *Machine) lock(n api.Node, did *api.Acted) { m.holders[n.Thing] = did.Thread }

func (m *Machine) unlock(n api.Node, _ *api.Acted) { m.holders[n.Thing] = nobody }

func (m *Machine) print(n api.Node, did *api.Acted) {
	did.Word = m.value(did.Thread, n.A)
	m.said = m.said.Then(api.Print{Thread: did.Thread, Word: did.Word})
}

func (m *Machine) branch(n api.Node, did *api.Acted) {
	did.Word = m.value(did.Thread, n.A)
	if did.Word == 0 {
		m.threads[did.Thread].at = n.Else
	}
}
