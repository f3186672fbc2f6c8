package monitor

import (
	"iter"
	"slices"

	"stile/api"
	"stile/trace"
)

// run is a list of right Dids, with its events, and the classes of the object's variables, where they are asked for.
type run struct {
	object  api.Object
	classes []api.Class
	dids    []api.Did
	events  []api.Event
}

func look(o api.Object, l []api.Did) (run, api.Errno) {
	events, why := trace.Events(o, l)
	return run{o, nil, l, events}, why
}

func lookAt(o api.Object, classes []api.Class, l []api.Did) (run, api.Errno) {
	x, why := look(o, l)
	if why == api.OK && len(classes) != o.Shared {
		why = api.ErrClass
	}
	x.classes = classes
	return x, why
}

// back yields the Dids from the last one to the first, with the event of each; of those that have none one without a kind.
func (x run) back() iter.Seq2[int, api.Event] {
	return func(yield func(at int, e api.Event) bool) {
		left := len(x.events)
		for at := len(x.dids) - 1; at >= 0; at-- {
			var e api.Event
			if left > 0 && x.events[left-1].At == at {
				left--
				e = x.events[left]
			}
			if !yield(at, e) {
				return
			}
		}
	}
}

// reads yields the Dids that read a variable, in order, with what was written last ahead of each.
func (x run) reads() iter.Seq2[int, int64] {
	return func(yield func(at int, last int64) bool) {
		last := slices.Clone(x.object.Memory[:x.object.Shared])
		for at, d := range x.dids {
			if !x.touches(d) {
				continue
			}
			if d.Kind != api.DidStore && !yield(at, last[d.Addr]) {
				return
			}
			switch d.Kind {
			case api.DidStore:
				last[d.Addr] = d.Word
			case api.DidSwap:
				last[d.Addr] = d.Put
			}
		}
	}
}

// touches tells whether a Did reads or writes a variable.
func (x run) touches(d api.Did) bool {
	return d.Addr < x.object.Shared && (d.Kind == api.DidLoad || d.Kind == api.DidStore || d.Kind == api.DidSwap)
}

// frees tells whether a Did is a store by which a lock is left.
func (x run) frees(d api.Did) bool {
	isLock := d.Addr >= x.object.Shared && d.Addr < x.object.Shared+x.object.Locks
	return isLock && d.Kind == api.DidStore && d.Word == 0
}

// isGuarded tells of a variable; of none where no classes are asked for.
func (x run) isGuarded(thing int) bool {
	return thing < len(x.classes) && x.classes[thing].Kind == api.ClassGuarded
}
