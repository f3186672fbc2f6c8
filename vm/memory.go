package vm

import "slices"

// memory is words in pages, none of which ever changes: forks, which may be many, have in common what they have not written since.
type memory struct {
	pages []*page
	size  int
}

const pageSize = 32

type page [pageSize]int64

func newMemory(words []int64) memory {
	m := memory{size: len(words)}
	for part := range slices.Chunk(words, pageSize) {
		p := &page{}
		copy(p[:], part)
		m.pages = append(m.pages, p)
	}
	return m
}

func (m memory) fork() memory { return memory{slices.Clone(m.pages), m.size} }

func (m memory) at(addr int) int64 { return m.pages[addr/pageSize][addr%pageSize] }

func (m memory) put(addr int, word int64) {
	p := *m.pages[addr/pageSize]
	p[addr%pageSize] = word
	m.pages[addr/pageSize] = &p
}

func (m memory) words() []int64 {
	l := make([]int64, 0, len(m.pages)*pageSize)
	for _, p := range m.pages {
		l = append(l, p[:]...)
	}
	return l[:m.size]
}
