package roam

import (
	"stile/api"
	"stile/source"
	"stile/walk"
)

// Ends are all ends of a unit, and the walk that came to them.
func Ends(u api.Unit, most int) (*walk.Ends, Walk, api.Errno) {
	l := walk.NewEnds()
	w, why := Through(u, most, func(number int, s Situation) {
		if isOver(s.machine, len(u.Graphs)) {
			l.Add(s.mark(), number, func() api.End { return endOf(s.machine) })
		}
	})
	return l, w, why
}

// mark is a text of what makes a situation another end than others.
func (s Situation) mark() string {
	b := walk.Append(nil, s.parts.memory)
	b = walk.Append(b, s.parts.prints)
	if s.machine.Ended() {
		b = append(b, '.')
	}
	return string(b)
}

// isOver tells whether no thread can step.
func isOver(m *source.Machine, threads int) bool {
	for thread := range threads {
		if m.Can(thread) {
			return false
		}
	}
	return true
}

func endOf(m *source.Machine) api.End {
	return api.End{Prints: m.Prints(), Memory: m.Memory(), Ended: m.Ended()}
}
