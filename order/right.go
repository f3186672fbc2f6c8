package order

import "stile/api"

// none stands where an event that reads saw what was there at first, or where an event does not read.
const none = -1

func reads(d api.Deed) bool { return d.Kind == api.DeedRead || d.Kind == api.DeedBoth }

func writes(d api.Deed) bool { return d.Kind == api.DeedWrite || d.Kind == api.DeedBoth }

// writesTo tells whether an event, if it is one, writes a thing.
func writesTo(l []api.Deed, at, thing int) bool {
	return within(at, len(l)) && writes(l[at]) && l[at].Thing == thing
}

func isRightTop(x api.Execution) bool {
	return len(x.Events) <= api.MaxEvents && len(x.From) == len(x.Events) && len(x.After) == len(x.First)
}

// isRightDeed tells whether an event is right by itself.
func isRightDeed(d api.Deed, things int) bool {
	if d.Kind == api.DeedFence {
		things = 1 // it has none: its Thing must be 0
	}
	return d.Kind > api.DeedNone && d.Kind < api.DeedCount &&
		within(d.Thread, api.MaxThreads) && within(d.Thing, things) &&
		(reads(d) || d.Saw == 0) && (writes(d) || d.Put == 0)
}

// isRightFrom is asked of an event that is right by itself.
func isRightFrom(x api.Execution, at int) bool {
	d, from := x.Events[at], x.From[at]
	switch {
	case !reads(d):
		return from == none
	case from == none:
		return d.Saw == x.First[d.Thing]
	}
	return from != at && writesTo(x.Events, from, d.Thing) && x.Events[from].Put == d.Saw
}

// isRightAfter tells whether each thing's list has the events that write it, each once.
func isRightAfter(x api.Execution) bool {
	var listed [api.MaxEvents]bool
	for thing, l := range x.After {
		for _, at := range l {
			if !writesTo(x.Events, at, thing) || listed[at] {
				return false
			}
			listed[at] = true
		}
	}
	for at, d := range x.Events {
		if writes(d) != listed[at] {
			return false
		}
	}
	return true
}

// isLine tells whether a list has all of so many events, each once.
func isLine(l []int, events int) bool {
	if len(l) != events {
		return false
	}
	var listed [api.MaxEvents]bool
	for _, at := range l {
		if !within(at, events) || listed[at] {
			return false
		}
		listed[at] = true
	}
	return true
}

func within(n, count int) bool { return n >= 0 && n < count }
