package units_test

import (
	"testing"

	"stile/api"
	"stile/cfg"
	"stile/units"
)

func some() api.Unit {
	return api.Unit{
		Shared: []api.Decl{{Name: "x", Word: 3, At: 7}, {Name: "y"}},
		Locks:  []api.Decl{{Name: "l", At: 9}},
		Graphs: []api.Graph{
			{Name: "a", Locals: 1, Slots: 2, Nodes: []api.Node{{Kind: api.NodeEnd}}},
			{Name: "b", Slots: 5, Nodes: []api.Node{{Kind: api.NodePrint, Next: 1}, {Kind: api.NodeEnd, Origin: 1}}},
		},
	}
}

// With changes nodes alone, and shares nothing with the unit that it is given.
func TestWith(t *testing.T) {
	u, want := some(), some()
	want.Graphs[0].Nodes = []api.Node{{Kind: api.NodeSet, Next: 1}, {Kind: api.NodeEnd}}
	want.Graphs[1].Nodes = []api.Node{{Kind: api.NodeEnd, Origin: 1}}
	v := units.With(u, func(thread int) []api.Node {
		return append([]api.Node(nil), want.Graphs[thread].Nodes...)
	})
	if !cfg.Same(v, want) || !cfg.Same(u, some()) {
		t.Error(v, u)
	}
	v.Shared[0].Name, v.Locks[0].At, v.Graphs[1].Slots, v.Graphs[0].Nodes[0].Slot = "z", 8, 6, 4
	_, _ = append(v.Shared[:1], api.Decl{}), append(v.Graphs[:1], api.Graph{})
	if !cfg.Same(u, some()) {
		t.Error(u)
	}
	if v := units.With(api.Unit{}, nil); !cfg.Same(v, api.Unit{}) {
		t.Error(v)
	}
}
