package witness

import (
	"iter"
	"slices"

	"stile/api"
	"stile/trace"
)

// run is what came about by a list of Dids of an object.
type run struct {
	object  api.Object
	classes []api.Class
	events  []api.Event
	waiting [api.MaxThreads]int // of each core how many more stores it did than have gone to memory
}

func runOf(o api.Object, classes []api.Class, l []api.Did) (*run, api.Errno) {
	events, why := trace.Events(o, l)
	if why != api.OK {
		return nil, why
	}
	if len(classes) != o.Shared {
		return nil, api.ErrClass
	}
	r := &run{object: o, classes: classes, events: events}
	for _, d := range l {
		switch d.Kind {
		case api.DidStore:
			r.waiting[d.Core]++
		case api.DidDrain:
			r.waiting[d.Core]--
		}
	}
	return r, api.OK
}

// table has, of each kind of events that may be visible, what tells whether one is; of others nothing.
func (r *run) table() [api.EventCount]func(e api.Event) bool {
	return [api.EventCount]func(e api.Event) bool{
		api.EventLoad:   r.isOfRacy,
		api.EventStore:  r.isOfRacy,
		api.EventSwap:   r.isOfRacy,
		api.EventLock:   always,
		api.EventUnlock: always,
		api.EventPrint:  always,
	}
}

func (r *run) isOfRacy(e api.Event) bool { return r.classes[e.Thing].Kind == api.ClassRacy }

func always(api.Event) bool { return true }

// visible yields the visible events, in order.
func (r *run) visible(yield func(e api.Event) bool) {
	counts := r.table()
	for _, e := range r.events {
		if is := counts[e.Kind]; is != nil && is(e) && !yield(e) {
			return
		}
	}
}

// halts yields the events by which cores have halted that have no store that waits, in order.
func (r *run) halts(yield func(e api.Event) bool) {
	for _, e := range r.events {
		if e.Kind == api.EventHalt && r.waiting[e.Core] == 0 && !yield(e) {
			return
		}
	}
}

// cores yields those that events are of.
func cores(events iter.Seq[api.Event]) iter.Seq[int] {
	return func(yield func(core int) bool) {
		for e := range events {
			if !yield(e.Core) {
				return
			}
		}
	}
}

// hasEnded tells whether all cores of the object have halted, and no store waits.
func (r *run) hasEnded() bool {
	var ended [api.MaxThreads]bool
	for core := range cores(r.halts) {
		ended[core] = true
	}
	return !slices.Contains(ended[:len(r.object.Cores)], false)
}

func (r *run) prints() []api.Print {
	var l []api.Print
	for _, e := range r.events {
		if e.Kind == api.EventPrint {
			l = append(l, api.Print{Thread: e.Core, Word: e.Word})
		}
	}
	return l
}

// memory is what the object's variables have behind the run.
func (r *run) memory() []int64 {
	l := slices.Clone(r.object.Memory[:r.object.Shared])
	for _, e := range r.events {
		switch e.Kind {
		case api.EventStore:
			l[e.Thing] = e.Word
		case api.EventSwap:
			l[e.Thing] = e.Put
		}
	}
	return l
}

// explain is the story that the run shows.
func (r *run) explain(u api.Unit, most int) (api.Story, api.Errno) {
	t, why := newTeller(u, r.classes, most)
	if why != api.OK {
		return api.Story{}, why
	}
	if len(u.Graphs) != len(r.object.Cores) {
		return api.Story{}, api.ErrStory
	}
	if why := t.follow(cores(r.visible)); why != api.OK {
		return api.Story{}, why
	}
	if why := t.end(cores(r.halts)); why != api.OK {
		return api.Story{}, why
	}
	return t.story(), api.OK
}
