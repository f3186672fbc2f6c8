package lockset

import (
	"stile/api"
	"stile/sharing"
	"stile/sites"
)

// usage is how a unit's shared variables are used: owners as sharing tells them; always, of each variable that is touched the locks that are held ahead of all nodes that touch it.
type usage struct {
	owners []int
	always map[int]sites.Set
}

// nobody is what sharing.Owners tells of a variable that no node touches.
const nobody = -1

// ofEach asks one question of each shared variable.
func ofEach[T any](u api.Unit, ask func(x *usage, thing int) T) ([]T, api.Errno) {
	owners, why := sharing.Owners(u)
	if why != api.OK {
		return nil, why
	}
	x := &usage{owners, alwaysHeld(u)}
	var l []T
	for thing := range u.Shared {
		l = append(l, ask(x, thing))
	}
	return l, api.OK
}

func alwaysHeld(u api.Unit) map[int]sites.Set {
	always := map[int]sites.Set{}
	for s := range sites.Each(u) {
		if !s.Touches() {
			continue
		}
		held, is := always[s.Node.Thing]
		if !is {
			held = s.Held
		}
		always[s.Node.Thing] = held & s.Held
	}
	return always
}

// guards has none of a variable that is not in the map: nobody touches it.
func (x *usage) guards(thing int) []int { return x.always[thing].List() }

// class asks for one class after the other: the first one that a variable may have is its class.
func (x *usage) class(thing int) api.Class {
	for _, ask := range []func(thing int) (api.Class, bool){x.unused, x.private, x.guarded} {
		if c, is := ask(thing); is {
			return c
		}
	}
	return api.Class{Kind: api.ClassRacy}
}

func (x *usage) unused(thing int) (api.Class, bool) {
	return api.Class{Kind: api.ClassUnused}, x.owners[thing] == nobody
}

func (x *usage) private(thing int) (api.Class, bool) {
	owner := x.owners[thing]
	if owner < 0 {
		return api.Class{}, false
	}
	return api.Class{Kind: api.ClassPrivate, Thread: owner}, true
}

func (x *usage) guarded(thing int) (api.Class, bool) {
	guards := x.guards(thing)
	if len(guards) == 0 {
		return api.Class{}, false
	}
	return api.Class{Kind: api.ClassGuarded, Lock: guards[0]}, true
}
