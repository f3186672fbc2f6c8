package trace

import (
	"strconv"

	"stile/api"
	"stile/line"
	"stile/words"
)

// ownWord stands behind a load of the core's own store.
const ownWord = "own"

// writer writes right Dids, a line each; all but a line's first word have a blank ahead.
type writer struct{ text []byte }

func (w *writer) did(d api.Did) {
	f := forms()[d.Kind]
	h := hand{w.number, w.word, w.own}
	h.place(&d)
	w.part(f.word)
	f.fields(h, &d)
	w.text = append(w.text, '\n')
}

func (w *writer) part(s string) {
	if last := len(w.text) - 1; last >= 0 && w.text[last] != '\n' {
		w.text = append(w.text, ' ')
	}
	w.text = append(w.text, s...)
}

func (w *writer) number(n *int, _ int) { w.part(strconv.Itoa(*n)) }

func (w *writer) word(x *int64) { w.part(words.Print(*x)) }

func (w *writer) own(own *bool) {
	if *own {
		w.part(ownWord)
	}
}

// reader reads a line of a run.
type reader struct{ *line.Reader }

// read is the right Did of which a line tells; false, if it tells of none.
func read(text string) (api.Did, bool) {
	r := reader{line.New(text)}
	h := hand{r.number, r.Word, r.own}
	var d api.Did
	h.place(&d)
	d.Kind = kindOf(r.Next())
	forms()[d.Kind].fields(h, &d)
	if !r.Done() || !isRight(d) {
		return api.Did{}, false
	}
	return d, true
}

func (r reader) number(n *int, _ int) { r.Number(n) }

func (r reader) own(own *bool) {
	*own = r.More()
	if *own && r.Next() != ownWord {
		r.Fail()
	}
}
