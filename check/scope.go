package check

import "stile/api"

// role is as what a name is declared: bits, for a name may be so as several things.
type role int

const (
	asShared role = 1 << iota
	asLock
	asThread
	asLocal
	asVariable = asShared | asLocal
)

// entry is of a name as what it stands in its scope, and the number of the first thing there that has it.
type entry struct {
	roles role
	first int
}

// scope is what is declared at the top, or in a thread, by name; its things are numbered in the order of the walk.
type scope struct {
	entries map[string]entry
	things  int
}

func newScope() *scope { return &scope{entries: map[string]entry{}} }

func (x *scope) add(name string, as role) {
	e, is := x.entries[name]
	if !is {
		e.first = x.things
	}
	e.roles |= as
	x.entries[name] = e
	x.things++
}

func (x *scope) addAll(l []api.Decl, as role) {
	for _, d := range l {
		x.add(d.Name, as)
	}
}
