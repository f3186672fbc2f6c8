package tso

import (
	"math/bits"

	"stile/walk"
)

// memories gives like memories of an object the same number. Each is a tree of pairs: as a step changes one word of many, nearly all pairs are there already, and are kept but once.
type memories struct {
	height  int // how many pairs stand above a word
	numbers walk.Numbers[pair]
	pairs   []pair // by their numbers
}

// pair is two trees, each by its number; a tree without height is a word.
type pair [2]int64

func newMemories() *memories { return &memories{numbers: walk.Numbers[pair]{}} }

// first is the number of the first memory: all others have as many words.
func (x *memories) first(words []int64) int64 {
	x.height = bits.Len(uint(len(words)))
	return x.tree(x.height, words)
}

// behind is the number of a memory that is another one but for a word.
func (x *memories) behind(memory int64, addr int, word int64) int64 {
	return x.changed(memory, x.height, addr, word)
}

// tree has these words, and none where there is room for more: nothing ever comes to stand there.
func (x *memories) tree(height int, words []int64) int64 {
	switch {
	case len(words) == 0:
		return 0
	case height == 0:
		return words[0]
	}
	half := min(len(words), 1<<(height-1))
	return x.number(pair{x.tree(height-1, words[:half]), x.tree(height-1, words[half:])})
}

func (x *memories) changed(tree int64, height, addr int, word int64) int64 {
	if height == 0 {
		return word
	}
	p := x.pairs[tree]
	side := &p[addr>>(height-1)&1]
	*side = x.changed(*side, height-1, addr, word)
	return x.number(p)
}

func (x *memories) number(p pair) int64 {
	n := x.numbers.Of(p)
	if n == len(x.pairs) {
		x.pairs = append(x.pairs, p)
	}
	return int64(n)
}
