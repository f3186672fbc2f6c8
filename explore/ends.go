package explore

import (
	"stile/api"
	"stile/source"
	"stile/walk"
)

// endings are all ends of a unit, and the walk that came to them.
func endings(u api.Unit, most int) (*walk.Ends, walked, api.Errno) {
	l := walk.NewEnds()
	w, why := through(u, most, func(number int, s situation) {
		if isOver(s.machine, len(u.Graphs)) {
			l.Add(s.mark(), number, func() api.End { return endOf(s.machine) })
		}
	})
	return l, w, why
}

// mark is a text of what makes a situation another end than others.
func (s situation) mark() string {
	b := walk.Append(nil, s.parts.memory)
	b = walk.Append(b, s.parts.prints)
	return string(walk.Append(b, ended(api.End{Ended: s.machine.Ended()})))
}

// isOver tells whether no thread can step.
func isOver(m *source.Machine, threads int) bool {
	for thread := range threads {
		if m.Can(thread) {
			return false
		}
	}
	return true
}

func endOf(m *source.Machine) api.End {
	return api.End{Prints: m.Prints(), Memory: m.Memory(), Ended: m.Ended()}
}
