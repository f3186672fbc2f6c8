package order

import "stile/api"

// rule tells which program arrows, and which From arrows, count; After and Before arrows always do.
type rule struct{ program, from func(a, b api.Deed) bool }

func always(_, _ api.Deed) bool { return true }

// ofThings has the arrows of each thing by itself.
func ofThings() rule {
	return rule{
		program: func(a, b api.Deed) bool {
			return a.Kind != api.DeedFence && b.Kind != api.DeedFence && a.Thing == b.Thing
		},
		from: always,
	}
}

func ofAll() rule { return rule{always, always} }

// ofBuffers has those that store buffers keep: a store may wait while its thread goes on to read, and its thread sees it ahead of all others.
func ofBuffers() rule {
	return rule{
		program: func(a, b api.Deed) bool { return a.Kind != api.DeedWrite || b.Kind != api.DeedRead },
		from:    func(a, b api.Deed) bool { return a.Thread != b.Thread },
	}
}

// web is a right execution: the arrows between its events.
type web struct {
	events []api.Deed
	from   []int
	place  [api.MaxEvents]int // of each event that writes, where it stands in its thing's list
}

func newWeb(x api.Execution) *web {
	w := &web{events: x.Events, from: x.From}
	for _, l := range x.After {
		for place, at := range l {
			w.place[at] = place
		}
	}
	return w
}

// leads tells whether an arrow that counts leads from a to b, which are two.
func (w *web) leads(a, b int, r rule) bool {
	d, e := w.events[a], w.events[b]
	return a < b && d.Thread == e.Thread && r.program(d, e) ||
		w.from[b] == a && r.from(d, e) ||
		w.isAfter(a, b) || w.isBefore(a, b)
}

func (w *web) isAfter(a, b int) bool {
	d, e := w.events[a], w.events[b]
	return writes(d) && writes(e) && d.Thing == e.Thing && w.place[a] < w.place[b]
}

func (w *web) isBefore(a, b int) bool {
	d, e := w.events[a], w.events[b]
	return reads(d) && writes(e) && d.Thing == e.Thing && (w.from[a] == none || w.place[w.from[a]] < w.place[b])
}

// matrix tells, of each event and each, whether an arrow leads from the one to the other.
type matrix [api.MaxEvents][api.MaxEvents]bool

func (w *web) arrows(r rule) *matrix {
	m := &matrix{}
	for a := range w.events {
		for b := range w.events {
			m[a][b] = a != b && w.leads(a, b, r)
		}
	}
	return m
}

// hasRing closes the matrix of so many events: then an arrow leads wherever arrows did, one behind another.
func (m *matrix) hasRing(events int) bool {
	for by := range events {
		for a := range events {
			if m[a][by] {
				m.goOn(a, by, events)
			}
		}
	}
	for a := range events {
		if m[a][a] {
			return true
		}
	}
	return false
}

// goOn has an arrow lead from a to wherever one leads from by.
func (m *matrix) goOn(a, by, events int) {
	for b := range events {
		m[a][b] = m[a][b] || m[by][b]
	}
}
