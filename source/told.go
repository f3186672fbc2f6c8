package source

import (
	"strings"

	"stile/words"
)

// write writes the situation's text.
func (m *Machine) write(b *strings.Builder) {
	for _, t := range m.threads {
		writeWord(b, int64(t.at))
		for _, w := range t.slots {
			writeWord(b, w)
		}
		b.WriteByte('|')
	}
	for _, w := range m.memory {
		writeWord(b, w)
	}
	b.WriteByte('|')
	for _, thread := range m.holders {
		writeWord(b, int64(thread))
	}
	b.WriteByte('|')
	for _, p := range m.said.All() {
		b.WriteString(words.Print(int64(p.Thread)))
		b.WriteByte(':')
		writeWord(b, p.Word)
	}
}

func writeWord(b *strings.Builder, w int64) {
	b.WriteString(words.Print(w))
	b.WriteByte(',')
}
