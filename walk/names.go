package walk

import (
	"strconv"

	"stile/api"
)

// Numbers gives like things the same number, from 0 on, as they are first asked for: many situations have a part in common, which is kept but once.
type Numbers[K comparable] map[K]int

func (x Numbers[K]) Of(thing K) int {
	n, is := x[thing]
	if !is {
		n = len(x)
		x[thing] = n
	}
	return n
}

// Append writes a number behind a text, so that no other numbers make the same text.
func Append[N int | int64](text []byte, n N) []byte {
	return append(strconv.AppendInt(text, int64(n), 10), ',')
}

// Prints gives like lists of prints the same number; none has 0. It keeps of a list no more than its last print and the number of those ahead, as lists may be long.
type Prints struct{ behind Numbers[printed] }

type printed struct {
	ahead int
	print api.Print
}

func NewPrints() Prints { return Prints{Numbers[printed]{}} }

// Behind is the number of a list with one print more.
func (x Prints) Behind(ahead int, p api.Print) int { return x.behind.Of(printed{ahead, p}) + 1 }

// Has tells whether a list has a number.
func (x Prints) Has(l []api.Print) bool {
	number := 0
	for _, p := range l {
		n, is := x.behind[printed{number, p}]
		if !is {
			return false
		}
		number = n + 1
	}
	return true
}
