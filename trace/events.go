package trace

import (
	"iter"

	"stile/api"
)

// teller tells what has come about by Dids, by what is at which address.
type teller struct{ shared, locks int }

// table has, of each kind of Dids that may be events, what tells which one is: none, if it has no kind.
func (x teller) table() [api.DidCount]func(d api.Did) api.Event {
	return [api.DidCount]func(d api.Did) api.Event{
		api.DidLoad:  x.load,
		api.DidSwap:  x.swap,
		api.DidPrint: x.print,
		api.DidHalt:  x.halt,
		api.DidDrain: x.drain,
	}
}

// events yields the events of right Dids, in order.
func (x teller) events(l []api.Did) iter.Seq[api.Event] {
	return func(yield func(api.Event) bool) {
		tell := x.table()
		for at, d := range l {
			if tell[d.Kind] == nil {
				continue
			}
			e := tell[d.Kind](d)
			e.Core, e.At = d.Core, at
			if e.Kind != api.EventNone && !yield(e) {
				return
			}
		}
	}
}

func (x teller) load(d api.Did) api.Event {
	if !x.isVariable(d.Addr) {
		return api.Event{}
	}
	return api.Event{Kind: api.EventLoad, Thing: d.Addr, Word: d.Word, Own: d.Own}
}

func (x teller) drain(d api.Did) api.Event {
	switch {
	case x.isVariable(d.Addr):
		return api.Event{Kind: api.EventStore, Thing: d.Addr, Word: d.Word}
	case x.isLock(d.Addr) && d.Word == 0:
		return api.Event{Kind: api.EventUnlock, Thing: d.Addr - x.shared}
	}
	return api.Event{}
}

func (x teller) swap(d api.Did) api.Event {
	switch {
	case x.isVariable(d.Addr):
		return api.Event{Kind: api.EventSwap, Thing: d.Addr, Word: d.Word, Put: d.Put}
	case x.isLock(d.Addr) && d.Word == 0 && d.Put != 0:
		return api.Event{Kind: api.EventLock, Thing: d.Addr - x.shared}
	}
	return api.Event{}
}

func (teller) print(d api.Did) api.Event {
	return api.Event{Kind: api.EventPrint, Word: d.Word}
}

func (teller) halt(api.Did) api.Event { return api.Event{Kind: api.EventHalt} }

func (x teller) isVariable(addr int) bool { return addr < x.shared }

func (x teller) isLock(addr int) bool { return addr >= x.shared && addr < x.shared+x.locks }
