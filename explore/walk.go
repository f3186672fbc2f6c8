package explore

import (
	"iter"

	"stile/api"
	"stile/source"
	"stile/walk"
)

// walked is a walk through a unit's situations, and what has been printed in them.
type walked struct {
	*walk.Walk[situation, int]
	prints walk.Prints
}

type situation struct {
	machine *source.Machine
	parts   parts
}

// Text is the same of two situations just if their source.Key is.
func (s situation) Text() string { return s.parts.text() }

// through goes through all situations of a unit; each is handed on to what is done with it.
func through(u api.Unit, most int, each func(number int, s situation)) (walked, api.Errno) {
	m, why := source.New(u)
	if why != api.OK {
		return walked{}, why
	}
	if most < 1 || most > api.MaxStates {
		return walked{}, api.ErrRange
	}
	x := &namer{u, walk.Numbers[string]{}, walk.NewPrints()}
	w, ok := walk.Through(situation{m, x.partsOf(m)}, most, x.next, each)
	if !ok {
		return walked{}, api.ErrMany
	}
	return walked{w, x.prints}, api.OK
}

// next yields the situations to which one comes from one, by each thread's action.
func (x *namer) next(s situation) iter.Seq2[int, situation] {
	return func(yield func(thread int, s situation) bool) {
		for thread := range x.unit.Graphs {
			if !s.machine.Can(thread) {
				continue
			}
			m := s.machine.Copy()
			did, _ := m.Step(thread)
			if !yield(thread, situation{m, x.partsBehind(s.parts, m, did)}) {
				return
			}
		}
	}
}
