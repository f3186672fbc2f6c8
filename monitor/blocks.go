package monitor

import (
	"iter"
	"slices"

	"stile/api"
)

// stay tells whose a block is: all blocks of one lock and core go on alike, whenever they were begun.
type stay struct{ lock, core int }

// seen is what a block that begins now comes to see: where it is left and given back, and, ahead of that, where its core first touches each variable that the lock guards.
type seen struct {
	left, to int
	first    map[int]int
}

// blocks yields the blocks from the last one to the first, each with what it has seen. It goes through the run from behind, as there it knows what comes, however many blocks are open at one time.
func (x run) blocks() iter.Seq2[api.Block, *seen] {
	return func(yield func(b api.Block, s *seen) bool) {
		behind := map[stay]*seen{}
		for at, e := range x.back() {
			d := x.dids[at]
			switch {
			case e.Kind == api.EventLock:
				s := sight(behind, stay{e.Thing, e.Core})
				if !yield(api.Block{Lock: e.Thing, Core: e.Core, From: at, Left: s.left, To: s.to}, s) {
					return
				}
			case e.Kind == api.EventUnlock:
				s := sight(behind, stay{e.Thing, e.Core})
				s.to = at
				clear(s.first)
			case x.frees(d):
				sight(behind, stay{d.Addr - x.object.Shared, d.Core}).left = at
			case x.touches(d) && x.isGuarded(d.Addr):
				sight(behind, stay{x.classes[d.Addr].Lock, d.Core}).first[d.Addr] = at
			}
		}
	}
}

// sight is what is seen of a stay; nothing as yet, if it was not asked for.
func sight(behind map[stay]*seen, who stay) *seen {
	if behind[who] == nil {
		behind[who] = &seen{none, none, map[int]int{}}
	}
	return behind[who]
}

// list are the blocks as they begin.
func (x run) list() []api.Block {
	var l []api.Block
	for b := range x.blocks() {
		l = append(l, b)
	}
	slices.Reverse(l)
	return l
}

// hands are the first touches in each block that read.
func (x run) hands() []api.Hand {
	last := make([]int64, len(x.dids))
	for at, w := range x.reads() {
		last[at] = w
	}
	var l []api.Hand
	for b, s := range x.blocks() {
		for thing := x.object.Shared - 1; thing >= 0; thing-- {
			at, is := s.first[thing]
			if is && x.dids[at].Kind != api.DidStore {
				l = append(l, api.Hand{Thing: thing, Core: b.Core, At: at, Read: x.dids[at].Word, Last: last[at]})
			}
		}
	}
	slices.Reverse(l)
	return l
}
