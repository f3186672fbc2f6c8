// Package units makes units anew, for layers that change what threads do.
package units

import (
	"slices"
	"strings"

	"stile/api"
)

// With is a unit like another one, but for its threads' nodes; it has memory of its own, if these have.
func With(u api.Unit, nodes func(thread int) []api.Node) api.Unit {
	v := api.Unit{Shared: ownDecls(u.Shared), Locks: ownDecls(u.Locks)}
	for thread, g := range u.Graphs {
		g.Name = strings.Clone(g.Name)
		g.Nodes = nodes(thread)
		v.Graphs = append(v.Graphs, g)
	}
	return v
}

func ownDecls(l []api.Decl) []api.Decl {
	own := slices.Clone(l)
	for i := range own {
		own[i].Name = strings.Clone(own[i].Name)
	}
	return own
}
