package fold

import "stile/api"

// subject is what a fact is of: a slot, or a quiet variable.
type subject struct {
	isThing bool
	number  int
}

func slotSubject(slot int) subject { return subject{number: slot} }

func thingSubject(thing int) subject { return subject{isThing: true, number: thing} }

// note is what stands of a subject: the fact, if there is one; of a slot, when it was set last. A fact whose Value is a slot holds only as long as that slot was not set anew: so nobody needs to look for the facts that a slot's change ends.
type note struct {
	is    bool
	value api.Value
	set   int // of a slot: the time at which it was set; 0: it was not
	seen  int // if value is a slot: when that one had been set, as the fact was noted
}

// facts are what is known at a place of a walk. What has changed is remembered, so that a walk can go back to where ways part.
type facts struct {
	notes map[subject]note
	past  []change
	time  int
}

// change is a subject whose note was changed, and that note.
type change struct {
	of  subject
	was note
}

func newFacts() *facts { return &facts{notes: map[subject]note{}} }

// of is the Value that a subject is known to have.
func (f *facts) of(s subject) (api.Value, bool) {
	n := f.notes[s]
	if !n.is || n.value.IsSlot && f.notes[slotSubject(n.value.Slot)].set != n.seen {
		return api.Value{}, false
	}
	return n.value, true
}

// putIn is a Value with what is known of it.
func (f *facts) putIn(v api.Value) api.Value {
	if !v.IsSlot {
		return v
	}
	if known, is := f.of(slotSubject(v.Slot)); is {
		return known
	}
	return v
}

// learn puts a fact in the place of what was known of its subject.
func (f *facts) learn(s subject, v api.Value) {
	n := note{is: true, value: v, set: f.notes[s].set}
	if v.IsSlot {
		n.seen = f.notes[slotSubject(v.Slot)].set
	}
	f.write(s, n)
}

// forget ends what is known of a variable.
func (f *facts) forget(thing int) { f.write(thingSubject(thing), note{}) }

// set tells that a slot has something else than it had: what was known of it, and by it, is known no more.
func (f *facts) set(slot int) {
	f.time++
	f.write(slotSubject(slot), note{set: f.time})
}

func (f *facts) write(s subject, n note) {
	f.past = append(f.past, change{s, f.notes[s]})
	f.notes[s] = n
}

// now is a time to which one can go back.
func (f *facts) now() int { return len(f.past) }

func (f *facts) back(to int) {
	for len(f.past) > to {
		last := f.past[len(f.past)-1]
		f.past = f.past[:len(f.past)-1]
		f.notes[last.of] = last.was
	}
}
