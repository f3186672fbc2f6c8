package order

import (
	"stile/api"
	"stile/queue"
)

// line has events behind all from which an arrow leads to them, of several that may come next the least one first: all events, if there is no ring.
func (w *web) line() []int {
	arrows := w.arrows(ofAll())
	var ahead [api.MaxEvents]int // of each event, from how many that are not in the line yet an arrow leads to it
	next := queue.New(func(a, b int) bool { return a < b })
	for b := range w.events {
		for a := range w.events {
			if arrows[a][b] {
				ahead[b]++
			}
		}
		if ahead[b] == 0 {
			next.Put(b)
		}
	}
	var l []int
	for a := range next.Each {
		l = append(l, a)
		for b := range w.events {
			if !arrows[a][b] {
				continue
			}
			if ahead[b]--; ahead[b] == 0 {
				next.Put(b)
			}
		}
	}
	return l
}

// readsOf is what each event sees, if right ones are done in a line.
func readsOf(events []api.Deed, line []int) []int {
	l := make([]int, len(events))
	writers := map[int]int{} // of each thing that is written, the last event that did
	for _, at := range line {
		d := events[at]
		l[at] = none
		if from, is := writers[d.Thing]; is && reads(d) {
			l[at] = from
		}
		if writes(d) {
			writers[d.Thing] = at
		}
	}
	return l
}
