package cfg

import (
	"stile/api"
	"stile/lexer"
	"stile/words"
)

// shape is what a node of a kind uses, beside Kind and Origin: a NodeSet's Op and B are looked at by themselves.
type shape struct {
	slot, shared, lock, a, next, other bool
}

var shapes = [api.NodeCount]shape{
	api.NodeSet:    {slot: true, a: true, next: true},
	api.NodeLoad:   {slot: true, shared: true, next: true},
	api.NodeStore:  {shared: true, a: true, next: true},
	api.NodeSwap:   {slot: true, shared: true, a: true, next: true},
	api.NodeLock:   {lock: true, next: true},
	api.NodeUnlock: {lock: true, next: true},
	api.NodePrint:  {a: true, next: true},
	api.NodeBranch: {a: true, next: true, other: true},
	api.NodeEnd:    {},
}

// isRightTop tells whether a unit is right but for its graphs' nodes and slots.
func isRightTop(u api.Unit) bool {
	if len(u.Shared) > api.MaxShared || len(u.Locks) > api.MaxLocks || len(u.Graphs) > api.MaxThreads {
		return false
	}
	times := map[string]int{}
	for _, d := range u.Shared {
		times[d.Name]++
	}
	for _, d := range u.Locks {
		if d.Word != 0 {
			return false
		}
		times[d.Name]++
	}
	for _, g := range u.Graphs {
		times[g.Name]++
	}
	for name, n := range times {
		if n > 1 || !lexer.Name(name) {
			return false
		}
	}
	return true
}

// faultOf is the node of a graph that is at fault, 0 where it is the graph itself; -1, if it is right.
func faultOf(u api.Unit, g api.Graph) int {
	if !within(g.Locals, api.MaxLocals+1) || g.Slots < g.Locals || g.Slots > api.MaxSlots || !isCount(len(g.Nodes)) {
		return 0
	}
	for i, n := range g.Nodes {
		if !isRight(u, g, n) {
			return i
		}
	}
	return newNest(g).walk()
}

func isCount(nodes int) bool { return nodes >= 1 && nodes <= api.MaxNodes }

func isKind(kind api.NodeKind) bool { return kind > api.NodeNone && kind < api.NodeCount }

// isLinked tells whether one can go through a graph: how many nodes there are, their kinds, and where they lead.
func isLinked(g api.Graph) bool {
	if !isCount(len(g.Nodes)) {
		return false
	}
	for _, n := range g.Nodes {
		if !isKind(n.Kind) {
			return false
		}
		for _, to := range behind(n) {
			if !within(to, len(g.Nodes)) {
				return false
			}
		}
	}
	return true
}

func isRight(u api.Unit, g api.Graph, n api.Node) bool {
	if !isKind(n.Kind) || !within(n.Origin, api.MaxNodes) || !isRightOp(n) {
		return false
	}
	uses := shapes[n.Kind]
	return isNumber(n.Slot, uses.slot, g.Slots) && isRightThing(u, n) &&
		isNumber(n.Next, uses.next, len(g.Nodes)) && isNumber(n.Else, uses.other, len(g.Nodes)) &&
		isRightValue(n.A, uses.a, g.Slots) && isRightValue(n.B, n.Kind == api.NodeSet && words.Two(n.Op), g.Slots)
}

func isRightOp(n api.Node) bool {
	return n.Op == api.OpNone || n.Kind == api.NodeSet && n.Op < api.OpCount
}

func isRightThing(u api.Unit, n api.Node) bool {
	if shapes[n.Kind].lock {
		return within(n.Thing, len(u.Locks))
	}
	return isNumber(n.Thing, shapes[n.Kind].shared, len(u.Shared))
}

// isRightValue: what is not used must be zero, as the unused part of what is.
func isRightValue(v api.Value, used bool, slots int) bool {
	if used && v.IsSlot {
		return within(v.Slot, slots) && v.Word == 0
	}
	return !v.IsSlot && v.Slot == 0 && (used || v.Word == 0)
}

func isNumber(n int, used bool, count int) bool {
	if used {
		return within(n, count)
	}
	return n == 0
}

func within(n, count int) bool { return n >= 0 && n < count }
