package cfg

import (
	"strconv"
	"strings"

	"stile/api"
	"stile/words"
)

func unitText(u api.Unit) string {
	var b strings.Builder
	for _, g := range u.Graphs {
		b.WriteString("thread " + g.Name + "\n")
		for i, n := range g.Nodes {
			b.WriteString(strconv.Itoa(i) + " " + nodeText(u, n) + "\n")
		}
	}
	return b.String()
}

// nodeText is the text of a node that is right: what it does, and where it leads.
func nodeText(u api.Unit, n api.Node) string {
	l := deed(u, n)
	if shapes[n.Kind].next {
		l = append(l, "->", strconv.Itoa(n.Next))
	}
	if shapes[n.Kind].other {
		l = append(l, strconv.Itoa(n.Else))
	}
	return strings.Join(l, " ")
}

// deed is what a node does, word by word.
func deed(u api.Unit, n api.Node) []string {
	switch n.Kind {
	case api.NodeSet:
		return append([]string{slotText(n.Slot), "="}, reckoned(n)...)
	case api.NodeLoad:
		return []string{slotText(n.Slot), "=", u.Shared[n.Thing].Name}
	case api.NodeStore:
		return []string{u.Shared[n.Thing].Name, "=", valueText(n.A)}
	case api.NodeSwap:
		return []string{slotText(n.Slot), "=", "swap", u.Shared[n.Thing].Name, valueText(n.A)}
	case api.NodeLock:
		return []string{"lock", u.Locks[n.Thing].Name}
	case api.NodeUnlock:
		return []string{"unlock", u.Locks[n.Thing].Name}
	case api.NodePrint:
		return []string{"print", valueText(n.A)}
	case api.NodeBranch:
		return []string{"branch", valueText(n.A)}
	}
	return []string{"end"}
}

func reckoned(n api.Node) []string {
	switch {
	case n.Op == api.OpNone:
		return []string{valueText(n.A)}
	case words.Two(n.Op):
		return []string{valueText(n.A), words.Show(n.Op), valueText(n.B)}
	}
	return []string{words.Show(n.Op), valueText(n.A)}
}

func slotText(slot int) string { return "s" + strconv.Itoa(slot) }

func valueText(v api.Value) string {
	if v.IsSlot {
		return slotText(v.Slot)
	}
	return words.Print(v.Word)
}
