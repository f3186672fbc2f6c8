package sites

import "math/bits"

// Set is a set of numbers, a bit each: wide enough for api.MaxLocks locks, and for api.MaxThreads threads.
type Set uint16

func setOf(l []int) Set {
	var s Set
	for _, n := range l {
		s = s.With(n)
	}
	return s
}

func (s Set) With(n int) Set { return s | 1<<n }

func (s Set) Has(n int) bool { return s>>n&1 == 1 }

func (s Set) Count() int { return bits.OnesCount16(uint16(s)) }

// List are the set's numbers, rising.
func (s Set) List() []int {
	var l []int
	for ; s != 0; s &= s - 1 {
		l = append(l, bits.TrailingZeros16(uint16(s)))
	}
	return l
}
