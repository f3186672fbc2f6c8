package regs

import (
	"math/bits"

	"stile/api"
)

const wordBits = 64

// set is a set of slots, a bit each.
type set [(api.MaxSlots + wordBits - 1) / wordBits]uint64

func (s *set) has(slot int) bool { return s[slot/wordBits]>>(slot%wordBits)&1 == 1 }

func (s *set) put(slot int) { s[slot/wordBits] |= 1 << (slot % wordBits) }

// both are the slots that are in both sets.
func (s *set) both(other *set) set {
	var l set
	for i, w := range s {
		l[i] = w & other[i]
	}
	return l
}

// each yields the slots, rising.
func (s *set) each(yield func(slot int) bool) {
	for i, w := range s {
		for ; w != 0; w &= w - 1 {
			if !yield(i*wordBits + bits.TrailingZeros64(w)) {
				return
			}
		}
	}
}

func (s *set) list() []int {
	var l []int
	for slot := range s.each {
		l = append(l, slot)
	}
	return l
}
