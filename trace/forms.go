package trace

import "stile/api"

// hand is what is done with a Did's fields, one by one: they are written, read or looked at.
type hand struct {
	number func(n *int, count int) // of one that is 0 to count - 1
	word   func(w *int64)
	own    func(own *bool)
}

// form is how Dids of a kind are written: by which word, and which fields stand behind it.
type form struct {
	word   string
	fields func(h hand, d *api.Did)
}

func forms() [api.DidCount]form {
	return [api.DidCount]form{
		api.DidNothing: {"", hand.nothing},
		api.DidCompute: {"compute", hand.nothing},
		api.DidLoad:    {"load", hand.load},
		api.DidStore:   {"store", hand.access},
		api.DidSwap:    {"swap", hand.swap},
		api.DidFence:   {"fence", hand.nothing},
		api.DidPrint:   {"print", hand.print},
		api.DidHalt:    {"halt", hand.nothing},
		api.DidDrain:   {"drain", hand.access},
	}
}

// place hands on what stands ahead of the word, whatever the kind.
func (h hand) place(d *api.Did) {
	h.number(&d.Core, api.MaxThreads)
	h.number(&d.At, api.MaxCode)
}

func (h hand) nothing(*api.Did) {}

func (h hand) access(d *api.Did) {
	h.number(&d.Addr, api.MaxMemory)
	h.word(&d.Word)
}

func (h hand) load(d *api.Did) {
	h.access(d)
	h.own(&d.Own)
}

func (h hand) swap(d *api.Did) {
	h.access(d)
	h.word(&d.Put)
}

func (h hand) print(d *api.Did) { h.word(&d.Word) }

// kindOf is the kind of which a word tells; DidNothing, if it tells of none.
func kindOf(word string) api.DidKind {
	for kind, f := range forms() {
		if f.word == word {
			return api.DidKind(kind)
		}
	}
	return api.DidNothing
}

// isRight takes what a Did's kind uses away: nothing may be left.
func isRight(d api.Did) bool {
	if d.Kind == api.DidNothing || d.Kind >= api.DidCount {
		return false
	}
	right := true
	h := hand{
		number: func(n *int, count int) {
			right = right && *n >= 0 && *n < count
			*n = 0
		},
		word: func(w *int64) { *w = 0 },
		own:  func(own *bool) { *own = false },
	}
	h.place(&d)
	forms()[d.Kind].fields(h, &d)
	return right && d == api.Did{Kind: d.Kind}
}

func areRight(l []api.Did) bool {
	for _, d := range l {
		if !isRight(d) {
			return false
		}
	}
	return true
}
