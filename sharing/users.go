package sharing

import (
	"stile/api"
	"stile/sites"
)

// kind is of which kind a thing is.
type kind uint8

const (
	variable kind = iota
	lock
	output // what is printed: one for all threads
)

// thing is what several threads may have to do with.
type thing struct {
	kind   kind
	number int
}

// users are the threads that read a thing, and those that write it.
type users struct{ readers, writers sites.Set }

// usage tells of each thing who uses it.
type usage map[thing]users

// gather is the usage of a right unit.
func gather(u api.Unit) usage {
	all := usage{}
	for s := range sites.Each(u) {
		switch {
		case s.Touches():
			all.note(s, variable, s.Reads(), s.Writes())
		case s.Node.Kind == api.NodeLock:
			// Who takes a lock, or prints, writes: another one that does it, too, can tell.
			all.note(s, lock, false, true)
		case s.Node.Kind == api.NodePrint:
			all.note(s, output, false, true)
		}
	}
	return all
}

func (x usage) note(s sites.Site, what kind, reads, writes bool) {
	of := thing{what, s.Node.Thing}
	by := x[of]
	if reads {
		by.readers = by.readers.With(s.At.Thread)
	}
	if writes {
		by.writers = by.writers.With(s.At.Thread)
	}
	x[of] = by
}

// owner is the one thread that uses a thing, else what Owners tells of it.
func (x users) owner() int {
	all := x.readers | x.writers
	switch all.Count() {
	case 0:
		return nobody
	case 1:
		return all.List()[0]
	}
	return several
}

// clash tells whether one of two threads writes what the other one uses.
func (x users) clash(a, b int) bool {
	all := x.readers | x.writers
	return x.writers.Has(a) && all.Has(b) || x.writers.Has(b) && all.Has(a)
}
