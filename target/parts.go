package target

import "stile/line"

// parts are the words of an object's line, read one by one.
type parts struct{ *line.Reader }

func (p parts) register(n *int) { p.Behind("r", n) }

// origin: one of 0 is not written.
func (p parts) origin(n *int) {
	p.Behind("@", n)
	if *n == 0 {
		p.Fail()
	}
}
