package source

import (
	"strings"

	"stile/api"
	"stile/words"
)

// said is a print, with those ahead of it (nil: none): copies go on from the same one, which never changes.
type said struct {
	ahead *said
	print api.Print
	count int
}

func (s *said) then(p api.Print) *said { return &said{ahead: s, print: p, count: s.length() + 1} }

func (s *said) length() int {
	if s == nil {
		return 0
	}
	return s.count
}

// list is all that was printed, in order.
func (s *said) list() []api.Print {
	l := make([]api.Print, s.length())
	for ; s != nil; s = s.ahead {
		l[s.count-1] = s.print
	}
	return l
}

// write writes the situation's text.
func (m *Machine) write(b *strings.Builder) {
	for _, t := range m.threads {
		writeWord(b, int64(t.at))
		for _, w := range t.slots {
			writeWord(b, w)
		}
		b.WriteByte('|')
	}
	for _, w := range m.memory {
		writeWord(b, w)
	}
	b.WriteByte('|')
	for _, thread := range m.holders {
		writeWord(b, int64(thread))
	}
	b.WriteByte('|')
	for _, p := range m.last.list() {
		b.WriteString(words.Print(int64(p.Thread)))
		b.WriteByte(':')
		writeWord(b, p.Word)
	}
}

func writeWord(b *strings.Builder, w int64) {
	b.WriteString(words.Print(w))
	b.WriteByte(',')
}
