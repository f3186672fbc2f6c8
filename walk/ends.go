package walk

import (
	"slices"

	"stile/api"
)

// Ends are the ends that a walk comes to, each once, as it does first.
type Ends struct {
	known Numbers[string]
	list  []ending
}

// ending is an end, and the number of the situation that was found first of those that are it.
type ending struct {
	end api.End
	at  int
}

func NewEnds() *Ends { return &Ends{known: Numbers[string]{}} }

// Add puts an end in, by a text by which it is told from others: only of one that is new is it asked how it is.
func (x *Ends) Add(text string, number int, end func() api.End) {
	if x.known.Of(text) == len(x.list) {
		x.list = append(x.list, ending{end(), number})
	}
}

// Sorted are all ends, in an order that is handed in.
func (x *Ends) Sorted(compare func(a, b api.End) int) []api.End {
	var l []api.End
	for _, e := range x.list {
		l = append(l, e.end)
	}
	slices.SortFunc(l, compare)
	return l
}

// Find is the number of the situation that is an end of which something handed in is so; false, if there is none.
func (x *Ends) Find(is func(e api.End) bool) (int, bool) {
	for _, e := range x.list {
		if is(e.end) {
			return e.at, true
		}
	}
	return 0, false
}
