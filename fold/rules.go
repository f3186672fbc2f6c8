package fold

import (
	"stile/api"
	"stile/words"
)

// rule is what an operator of two comes to, though one of its two is a slot x: behind, of x and a word; ahead, of a word and x; twice, of x and x.
type rule struct {
	behind, ahead answer
	twice         func(x api.Value) api.Value
}

// answer is the Value that x and a word come to; false, if that hangs on what x has.
type answer func(x api.Value, w int64) (api.Value, bool)

func itself(x api.Value) api.Value { return x }

func nought(api.Value) api.Value { return api.Value{} }

func one(api.Value) api.Value { return api.Value{Word: 1} }

// by has what one word comes to; of all others it says nothing.
func by(w int64, come func(x api.Value) api.Value) answer {
	return func(x api.Value, other int64) (api.Value, bool) { return come(x), other == w }
}

func times(x api.Value, w int64) (api.Value, bool) {
	if w == 0 {
		return nought(x), true
	}
	return itself(x), w == 1
}

func rules() [api.OpCount]rule {
	return [api.OpCount]rule{
		api.OpAdd:   {behind: by(0, itself), ahead: by(0, itself)},
		api.OpSub:   {behind: by(0, itself), twice: nought},
		api.OpMul:   {behind: times, ahead: times},
		api.OpDiv:   {behind: by(1, itself)},
		api.OpRem:   {behind: by(1, nought)},
		api.OpAnd:   {behind: by(0, nought), ahead: by(0, nought), twice: itself},
		api.OpOr:    {behind: by(0, itself), ahead: by(0, itself), twice: itself},
		api.OpXor:   {behind: by(0, itself), ahead: by(0, itself), twice: nought},
		api.OpShl:   {behind: by(0, itself)},
		api.OpShr:   {behind: by(0, itself)},
		api.OpIs:    {twice: one},
		api.OpIsNot: {twice: nought},
		api.OpLess:  {twice: nought},
		api.OpMost:  {twice: one},
		api.OpAbove: {twice: nought},
		api.OpLeast: {twice: one},
	}
}

// reckoned is what an operator makes of its Values, as far as that is known.
func (r rule) reckoned(op api.Op, a, b api.Value) (api.Value, bool) {
	switch {
	case !words.Two(op):
		w, why := words.One(op, a.Word)
		return api.Value{Word: w}, why == api.OK && !a.IsSlot
	case !a.IsSlot && !b.IsSlot:
		w, _ := words.Do(op, a.Word, b.Word)
		return api.Value{Word: w}, true
	case !b.IsSlot && r.behind != nil:
		return r.behind(a, b.Word)
	case !a.IsSlot && r.ahead != nil:
		return r.ahead(b, a.Word)
	case a == b && r.twice != nil:
		return r.twice(a), true
	}
	return api.Value{}, false
}
