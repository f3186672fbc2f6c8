// Package roam goes through all situations to which units may come, for explore and stuck.
package roam

import (
	"iter"

	"stile/api"
	"stile/source"
	"stile/walk"
)

// Walk is a walk through a unit's situations, and what has been printed in them.
type Walk struct {
	*walk.Walk[Situation, int]
	prints walk.Prints
}

// Shows tells whether in one of the situations just this had been printed.
func (w Walk) Shows(l []api.Print) bool { return w.prints.Has(l) }

type Situation struct {
	machine *source.Machine
	parts   parts
}

// Text is the same of two situations just if their source.Key is.
func (s Situation) Text() string { return s.parts.text() }

// Through goes through all situations of a unit; each is handed on to what is done with it.
func Through(u api.Unit, most int, each func(number int, s Situation)) (Walk, api.Errno) {
	m, why := source.New(u)
	if why != api.OK {
		return Walk{}, why
	}
	if most < 1 || most > api.MaxStates {
		return Walk{}, api.ErrRange
	}
	x := &namer{u, walk.Numbers[string]{}, walk.NewPrints()}
	w, ok := walk.Through(Situation{m, x.partsOf(m)}, most, x.next, each)
	if !ok {
		return Walk{}, api.ErrMany
	}
	return Walk{w, x.prints}, api.OK
}

// next yields the situations to which one comes from one, by each thread's action.
func (x *namer) next(s Situation) iter.Seq2[int, Situation] {
	return func(yield func(thread int, s Situation) bool) {
		for thread := range x.unit.Graphs {
			if !s.machine.Can(thread) {
				continue
			}
			m := s.machine.Copy()
			did, _ := m.Step(thread)
			if !yield(thread, Situation{m, x.partsBehind(s.parts, m, did)}) {
				return
			}
		}
	}
}
