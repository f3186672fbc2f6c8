package target

import (
	"strings"

	"stile/words"
)

// parts are the words of a line, taken one by one; bad, once one was not as it must be.
type parts struct {
	rest string
	more bool // whether any are left: the last one may be empty
	bad  bool
}

func (p *parts) next() string {
	if !p.more {
		p.bad = true
		return ""
	}
	var part string
	part, p.rest, p.more = strings.Cut(p.rest, " ")
	return part
}

// behind is what follows a sign in the next word.
func (p *parts) behind(sign string) string {
	part, is := strings.CutPrefix(p.next(), sign)
	if !is {
		p.bad = true
	}
	return part
}

func (p *parts) areDone() bool { return !p.more && !p.bad }

func (p *parts) register(n *int) { *n = p.size(p.behind("r")) }

func (p *parts) number(n *int) { *n = p.size(p.next()) }

func (p *parts) word(w *int64) { *w = p.value(p.next()) }

// origin: one of 0 is not written.
func (p *parts) origin(n *int) {
	*n = p.size(p.behind("@"))
	if *n == 0 {
		p.bad = true
	}
}

// size is a number of 0 or more that fits an int.
func (p *parts) size(s string) int {
	w := p.value(s)
	if w < 0 || int64(int(w)) != w {
		p.bad = true
	}
	return int(w)
}

func (p *parts) value(s string) int64 {
	w, why, _ := words.Parse(s)
	if why != 0 {
		p.bad = true
	}
	return w
}
