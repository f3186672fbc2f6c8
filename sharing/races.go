package sharing

import (
	"iter"

	"stile/api"
	"stile/sites"
)

// manner is how a node touches a variable: all that its races hang on.
type manner struct {
	thread, thing int
	writes        bool
	held          sites.Set
}

// touch is a node that touches a variable.
type touch struct {
	at  api.Access
	how manner
}

// field is where races are looked for: touches are all, by rising thread, then node; byThing, those of each variable; known are the rivals of each manner that was asked for. Many nodes are of like manners: without known, each pair of nodes would be looked at.
type field struct {
	touches []touch
	byThing map[int][]touch
	known   map[manner][]api.Access
}

func newField(u api.Unit) *field {
	x := &field{byThing: map[int][]touch{}, known: map[manner][]api.Access{}}
	for s := range sites.Each(u) {
		if !s.Touches() {
			continue
		}
		t := touch{s.At, manner{s.At.Thread, s.Node.Thing, s.Writes(), s.Held}}
		x.touches = append(x.touches, t)
		x.byThing[t.how.thing] = append(x.byThing[t.how.thing], t)
	}
	return x
}

// races yields all races of a right unit, in order.
func races(u api.Unit) iter.Seq[api.Pair] {
	return func(yield func(api.Pair) bool) {
		x := newField(u)
		for _, a := range x.touches {
			for _, b := range x.rivals(a.how) {
				if !yield(api.Pair{A: a.at, B: b}) {
					return
				}
			}
		}
	}
}

// rivals are the nodes of later threads with which nodes of a manner race.
func (x *field) rivals(how manner) []api.Access {
	l, is := x.known[how]
	if is {
		return l
	}
	for _, t := range x.byThing[how.thing] {
		if how.races(t.how) {
			l = append(l, t.at)
		}
	}
	x.known[how] = l
	return l
}

// races tells whether nodes of a manner race with those of a later thread's, that touch the same variable.
func (m manner) races(later manner) bool {
	return m.thread < later.thread && (m.writes || later.writes) && m.held&later.held == 0
}
