// Package walk goes from situation to situation, up to a cap: of units for explore, of objects for tso.
package walk

import (
	"iter"
	"slices"
)

// Situation has a text, by which it is told from others.
type Situation interface{ Text() string }

// Walk goes on first from those that were found first: so it comes to each by the shortest schedule, of these by the one whose step stands first where they part.
type Walk[S Situation, T any] struct {
	most  int
	found map[string]int // of each situation its number, by its text
	came  []arrival[T]   // of each, by its number
	queue []S            // of each, by its number; nothing of those that it has gone on from
}

// arrival is how a situation was come to first: from which one, by which step; of number 0 nothing.
type arrival[T any] struct {
	from int
	by   T
}

// Through goes through all situations to which one comes from a first one; each is handed on, with its number, to what is done with it. Next yields those to which one comes from one, with the step, as steps stand. False, if there are more than most.
func Through[S Situation, T any](first S, most int, next func(s S) iter.Seq2[T, S], each func(number int, s S)) (*Walk[S, T], bool) {
	w := &Walk[S, T]{most: most, found: map[string]int{}}
	w.find(first, arrival[T]{})
	for at := 0; at < len(w.queue); at++ {
		s := w.take(at)
		each(at, s)
		for by, other := range next(s) {
			if !w.find(other, arrival[T]{at, by}) {
				return nil, false
			}
		}
	}
	return w, true
}

// take leaves nothing of a situation in the queue: what it holds is needed no more, once one has gone on from it.
func (w *Walk[S, T]) take(at int) S {
	var none S
	s := w.queue[at]
	w.queue[at] = none
	return s
}

// find puts a situation that is new into the queue; false, if it would be one more than most.
func (w *Walk[S, T]) find(s S, how arrival[T]) bool {
	text := s.Text()
	if _, is := w.found[text]; is {
		return true
	}
	number := len(w.came)
	if number == w.most {
		return false
	}
	w.found[text] = number
	w.came = append(w.came, how)
	w.queue = append(w.queue, s)
	return true
}

// Count is how many situations there are; Way, the schedule by which one was come to.
func (w *Walk[S, T]) Count() int { return len(w.came) }

func (w *Walk[S, T]) Way(number int) []T {
	var l []T
	for ; number > 0; number = w.came[number].from {
		l = append(l, w.came[number].by)
	}
	slices.Reverse(l)
	return l
}
