package witness

import (
	"iter"

	"stile/api"
	"stile/source"
)

// teller has a source go on, and keeps the threads of its steps.
type teller struct {
	graphs  []api.Graph
	machine *source.Machine
	classes []api.Class
	most    int
	steps   []int
}

func newTeller(u api.Unit, classes []api.Class, most int) (*teller, api.Errno) {
	m, why := source.New(u)
	switch {
	case why != api.OK:
		return nil, why
	case len(classes) != len(u.Shared):
		return nil, api.ErrClass
	case most < 1 || most > api.MaxSteps:
		return nil, api.ErrRange
	}
	return &teller{graphs: u.Graphs, machine: m, classes: classes, most: most}, api.OK
}

// advance has a thread do one Advance.
func (t *teller) advance(thread int) api.Errno {
	n, why := t.machine.Advance(thread, t.classes, t.most)
	switch {
	case why != api.OK:
		return api.ErrStory
	case len(t.steps)+n > api.MaxSteps:
		return api.ErrMany
	}
	for range n {
		t.steps = append(t.steps, thread)
	}
	return api.OK
}

func (t *teller) follow(order iter.Seq[int]) api.Errno {
	for thread := range order {
		if why := t.advance(thread); why != api.OK {
			return why
		}
	}
	return api.OK
}

// end has threads whose cores have halted come to their ends: what they have left to do nobody can tell.
func (t *teller) end(halted iter.Seq[int]) api.Errno {
	for thread := range halted {
		if thread >= len(t.graphs) || t.hasEnded(thread) {
			continue
		}
		if why := t.advance(thread); why != api.OK {
			return why
		}
		if !t.hasEnded(thread) {
			return api.ErrStory
		}
	}
	return api.OK
}

func (t *teller) hasEnded(thread int) bool {
	return t.graphs[thread].Nodes[t.machine.At(thread)].Kind == api.NodeEnd
}

func (t *teller) story() api.Story {
	return api.Story{Steps: t.steps, Prints: t.machine.Prints(), Memory: t.machine.Memory(), Ended: t.machine.Ended()}
}
