package explore

import (
	"stile/api"
	"stile/source"
)

// ending is an end, and the number of the situation that was found first of those that are it.
type ending struct {
	end api.End
	at  int
}

// mark is an end by the numbers of its parts.
type mark struct {
	memory, prints int
	ended          bool
}

// endings are all ends, each once, in the order in which they are found.
func endings(u api.Unit, most int) ([]ending, *walk, api.Errno) {
	var l []ending
	seen := map[mark]int{}
	w, why := through(u, most, func(s situation) {
		if !isOver(s.machine, len(u.Graphs)) {
			return
		}
		is := mark{s.parts.memory, s.parts.prints, s.machine.Ended()}
		seen[is]++
		if seen[is] == 1 {
			l = append(l, ending{endOf(s.machine), s.at})
		}
	})
	return l, w, why
}

// isOver tells whether no thread can step.
func isOver(m *source.Machine, threads int) bool {
	for thread := range threads {
		if m.Can(thread) {
			return false
		}
	}
	return true
}

func endOf(m *source.Machine) api.End {
	return api.End{Prints: m.Prints(), Memory: m.Memory(), Ended: m.Ended()}
}
