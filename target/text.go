package target

import (
	"strconv"
	"strings"

	"stile/api"
	"stile/line"
	"stile/words"
)

// textWriter writes texts; what is written behind a word has a blank ahead.
type textWriter struct{ b strings.Builder }

func (w *textWriter) object(o api.Object) {
	w.b.WriteString("object")
	for _, n := range [...]int{o.Shared, o.Locks, o.Buffer} {
		w.number(&n)
	}
	w.b.WriteString("\nmemory")
	for _, x := range o.Memory {
		w.word(&x)
	}
	w.b.WriteByte('\n')
	for _, c := range o.Cores {
		w.b.WriteString("core " + c.Name + "\n")
		for _, i := range c.Code {
			w.instruction(i)
			w.b.WriteByte('\n')
		}
	}
}

func (w *textWriter) instruction(i api.Instr) {
	w.b.WriteString(wordOf(i))
	hand{w.register, w.number, w.word}.visit(&i)
	if i.From != 0 {
		w.b.WriteString(" @" + strconv.Itoa(i.From))
	}
}

func (w *textWriter) register(n *int) { w.b.WriteString(" r" + strconv.Itoa(*n)) }

func (w *textWriter) number(n *int) { w.b.WriteString(" " + strconv.Itoa(*n)) }

func (w *textWriter) word(x *int64) { w.b.WriteString(" " + words.Print(*x)) }

// textReader reads an object's text line by line; it keeps no more of a list than shows that it is too long.
type textReader struct {
	o api.Object
}

// object reads a whole text; false, and the first byte of the first line that is not as it must be there, if there is one.
func (x *textReader) object(s string) (int, bool) {
	at := 0
	for number := 0; number < 2 || at < len(s); number++ {
		text, _, isWhole := strings.Cut(s[at:], "\n")
		if !isWhole || !x.line(number, text) {
			return at, false
		}
		at += len(text) + 1
	}
	return 0, true
}

// line reads a line, by its number; false, if it is not as it must be there.
func (x *textReader) line(number int, text string) bool {
	p := parts{line.New(text)}
	first := p.Next()
	switch {
	case number == 0:
		return first == "object" && x.head(p)
	case number == 1:
		return first == "memory" && x.memory(p)
	case first == "core":
		return x.core(p)
	}
	return len(x.o.Cores) > 0 && x.instruction(first, p)
}

func (x *textReader) head(p parts) bool {
	for _, n := range [...]*int{&x.o.Shared, &x.o.Locks, &x.o.Buffer} {
		p.Number(n)
	}
	return p.Done()
}

func (x *textReader) memory(p parts) bool {
	for p.More() {
		var w int64
		p.Word(&w)
		x.o.Memory = kept(x.o.Memory, w, api.MaxMemory)
	}
	return p.Done()
}

func (x *textReader) core(p parts) bool {
	name := strings.Clone(p.Next())
	x.o.Cores = kept(x.o.Cores, api.Core{Name: name}, api.MaxThreads)
	return p.Done()
}

func (x *textReader) instruction(word string, p parts) bool {
	i, is := begun(word)
	if !is {
		return false
	}
	hand{p.register, p.Number, p.Word}.visit(&i)
	if p.More() {
		p.origin(&i.From)
	}
	c := &x.o.Cores[len(x.o.Cores)-1]
	c.Code = kept(c.Code, i, api.MaxCode)
	return p.Done()
}

// kept is a list with one more; but one that is longer already than it may be stays as it is.
func kept[T any](l []T, one T, most int) []T {
	if len(l) > most {
		return l
	}
	return append(l, one)
}
