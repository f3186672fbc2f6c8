package dead

import "stile/api"

// habit is what nodes of a kind do: which slots they read and set; which variables they read or let others see, and which they cover.
type habit struct {
	reads, sets, shows, covers func(n api.Node) []int
}

// habits are those of each kind, where there are so many shared variables.
func habits(shared int) [api.NodeCount]habit {
	var every []int
	for number := range shared {
		every = append(every, number)
	}
	// The run may end at a NodeLock, too: it may wait for ever.
	all := func(api.Node) []int { return every }
	return [api.NodeCount]habit{
		api.NodeSet:    {reads: itsValues, sets: itsSlot, shows: nothing, covers: nothing},
		api.NodeLoad:   {reads: nothing, sets: itsSlot, shows: itsThing, covers: nothing},
		api.NodeStore:  {reads: itsValue, sets: nothing, shows: nothing, covers: itsThing},
		api.NodeSwap:   {reads: itsValue, sets: itsSlot, shows: itsThing, covers: nothing},
		api.NodeLock:   {reads: nothing, sets: nothing, shows: all, covers: nothing},
		api.NodeUnlock: {reads: nothing, sets: nothing, shows: nothing, covers: nothing},
		api.NodePrint:  {reads: itsValue, sets: nothing, shows: nothing, covers: nothing},
		api.NodeBranch: {reads: itsValue, sets: nothing, shows: nothing, covers: nothing},
		api.NodeEnd:    {reads: nothing, sets: nothing, shows: all, covers: nothing},
	}
}

func nothing(api.Node) []int { return nil }

func itsSlot(n api.Node) []int { return []int{n.Slot} }

func itsThing(n api.Node) []int { return []int{n.Thing} }

func itsValue(n api.Node) []int {
	if n.A.IsSlot {
		return []int{n.A.Slot}
	}
	return nil
}

// itsValues: of an operator of one B is no slot, as a right node's fields are zero that it does not use.
func itsValues(n api.Node) []int {
	l := itsValue(n)
	if n.B.IsSlot {
		l = append(l, n.B.Slot)
	}
	return l
}
