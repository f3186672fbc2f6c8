// Package line takes a line of a text apart: words with one blank between, some of which are numbers.
package line

import (
	"strings"

	"stile/api"
	"stile/words"
)

// Reader has a line's words read one by one. It goes on when a word is not as it must be: that is asked once, at the end.
type Reader struct {
	rest string
	more bool // whether a word is left: the last one may be empty
	bad  bool
}

func New(s string) *Reader { return &Reader{rest: s, more: true} }

// Next is the next word; More tells whether there is one.
func (r *Reader) Next() string {
	if !r.more {
		r.bad = true
		return ""
	}
	var word string
	word, r.rest, r.more = strings.Cut(r.rest, " ")
	return word
}

func (r *Reader) More() bool { return r.more }

// Number reads one of 0 or more that fits an int; Behind, one with a sign ahead of it; Word, any word of 64 bits.
func (r *Reader) Number(n *int) { *n = r.size(r.Next()) }

func (r *Reader) Behind(sign string, n *int) {
	digits, is := strings.CutPrefix(r.Next(), sign)
	if !is {
		r.bad = true
	}
	*n = r.size(digits)
}

func (r *Reader) Word(w *int64) { *w = r.value(r.Next()) }

// Fail tells that what was read is not as it must be.
func (r *Reader) Fail() { r.bad = true }

// Done tells whether all words were read, and as they must be.
func (r *Reader) Done() bool { return !r.more && !r.bad }

func (r *Reader) size(s string) int {
	w := r.value(s)
	if w < 0 || int64(int(w)) != w {
		r.bad = true
	}
	return int(w)
}

func (r *Reader) value(s string) int64 {
	w, why, _ := words.Parse(s)
	if why != api.OK {
		r.bad = true
	}
	return w
}
