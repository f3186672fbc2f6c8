package explore

import (
	"slices"

	"stile/api"
	"stile/source"
)

// walk goes from situation to situation, by each thread in turn, from those found first on: so it comes to each by the shortest schedule, of these by the least.
type walk struct {
	unit  api.Unit
	most  int
	names names
	found map[string]int // of each situation its number, by its text
	steps []step         // of each, by its number
	queue []situation    // of each, by its number; nothing of those that it has gone on from
}

// step is how a situation was come to first: from which one, by which thread's action; of number 0 nothing.
type step struct{ from, thread int }

type situation struct {
	machine *source.Machine
	at      int
	parts   parts
}

// through goes through all situations of a unit; each is handed on to what is done with it.
func through(u api.Unit, most int, each func(s situation)) (*walk, api.Errno) {
	m, why := source.New(u)
	if why != api.OK {
		return nil, why
	}
	if most < 1 || most > api.MaxStates {
		return nil, api.ErrRange
	}
	w := &walk{unit: u, most: most, names: names{}, found: map[string]int{}}
	w.find(m, w.partsOf(m), step{})
	for at := 0; at < len(w.queue); at++ {
		s := w.queue[at]
		w.queue[at] = situation{}
		each(s)
		if !w.goOn(s) {
			return nil, api.ErrMany
		}
	}
	return w, api.OK
}

// goOn finds those to which one comes from a situation; false, if there are more than most.
func (w *walk) goOn(s situation) bool {
	for thread := range w.unit.Graphs {
		if !s.machine.Can(thread) {
			continue
		}
		m := s.machine.Copy()
		did, _ := m.Step(thread)
		if !w.find(m, w.partsBehind(s.parts, m, did), step{s.at, thread}) {
			return false
		}
	}
	return true
}

// find puts a situation that is new into the queue; false, if it would be one more than most.
func (w *walk) find(m *source.Machine, p parts, by step) bool {
	text := p.text()
	if _, is := w.found[text]; is {
		return true
	}
	at := len(w.steps)
	if at == w.most {
		return false
	}
	w.found[text] = at
	w.steps = append(w.steps, by)
	w.queue = append(w.queue, situation{m, at, p})
	return true
}

// way is the schedule by which a situation was come to first.
func (w *walk) way(at int) []int {
	var l []int
	for ; at > 0; at = w.steps[at].from {
		l = append(l, w.steps[at].thread)
	}
	slices.Reverse(l)
	return l
}

// hasPrinted tells whether some situation has just these prints: they have a number then.
func (w *walk) hasPrinted(l []api.Print) bool {
	n, is := w.names[noPrints]
	for _, p := range l {
		if !is {
			return false
		}
		n, is = w.names[printText(n, p)]
	}
	return is
}
