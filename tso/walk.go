package tso

import (
	"iter"

	"stile/api"
	"stile/vm"
	"stile/walk"
)

// walked is a walk through an object's situations, and what has been printed in them.
type walked struct {
	*walk.Walk[situation, api.Step]
	prints walk.Prints
}

type situation struct {
	machine *vm.Machine
	parts   parts
}

func (s situation) Text() string { return s.parts.text() }

// do has a step done, whatever it is: the parts are then those behind it.
func (s *situation) do(x *namer, step api.Step) api.Did {
	did, _ := s.machine.Step(step)
	s.parts = x.partsBehind(s.parts, s.machine, did)
	return did
}

// kind is a kind of steps: how one that is Ready is done.
type kind func(x *namer, s *situation, step api.Step)

func ready(x *namer, s *situation, step api.Step) { s.do(x, step) }

// plain leaves all buffers empty behind each step: so what is Ready is a StepRun.
func plain(x *namer, s *situation, step api.Step) {
	if s.do(x, step).Kind == api.DidStore {
		s.do(x, api.Step{Kind: api.StepDrain, Core: step.Core})
	}
}

// through goes through all situations of an object to which one comes by steps of a kind; each is handed on to what is done with it.
func through(o api.Object, most int, does kind, each func(number int, s situation)) (walked, api.Errno) {
	m, why := vm.New(o)
	if why != api.OK {
		return walked{}, why
	}
	if most < 1 || most > api.MaxStates {
		return walked{}, api.ErrRange
	}
	x := newNamer()
	next := func(s situation) iter.Seq2[api.Step, situation] { return x.next(s, does) }
	w, ok := walk.Through(situation{m, x.partsOf(m)}, most, next, each)
	if !ok {
		return walked{}, api.ErrMany
	}
	return walked{w, x.prints}, api.OK
}

// next yields the situations to which one comes from one by a step of a kind.
func (x *namer) next(s situation, does kind) iter.Seq2[api.Step, situation] {
	return func(yield func(by api.Step, s situation) bool) {
		for _, step := range s.machine.Ready() {
			other := situation{s.machine.Fork(), s.parts}
			does(x, &other, step)
			if !yield(step, other) {
				return
			}
		}
	}
}
