package tso

import (
	"stile/api"
	"stile/explore"
	"stile/vm"
	"stile/walk"
)

// endings are all ends of an object to which one comes by steps of a kind, and the walk that came to them.
func endings(o api.Object, most int, does kind) (*walk.Ends, walked, api.Errno) {
	l := walk.NewEnds()
	w, why := through(o, most, does, func(number int, s situation) {
		if s.machine.Ended() {
			l.Add(s.mark(o.Shared), number, func() api.End { return endOf(s.machine, o.Shared) })
		}
	})
	return l, w, why
}

// sorted are these ends in order.
func sorted(o api.Object, most int, does kind) ([]api.End, api.Errno) {
	l, _, why := endings(o, most, does)
	if why != api.OK {
		return nil, why
	}
	return l.Sorted(explore.Compare), api.OK
}

// mark is a text of what makes a situation another end than others.
func (s situation) mark(shared int) string {
	b := walk.Append(nil, s.parts.prints)
	for _, w := range variables(s.machine, shared) {
		b = walk.Append(b, w)
	}
	return string(b)
}

func endOf(m *vm.Machine, shared int) api.End {
	return api.End{Prints: m.Prints(), Memory: variables(m, shared), Ended: true}
}

// variables are the words of memory that the shared variables have: whoever appends to them does not come to what stands behind.
func variables(m *vm.Machine, shared int) []int64 { return m.Memory()[:shared:shared] }
