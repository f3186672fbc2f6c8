package target

import (
	"stile/api"
	"stile/words"
)

// fields are some of an instruction's fields, beside Kind and From.
type fields uint

const (
	fieldOp fields = 1 << iota
	fieldD
	fieldA
	fieldB
	fieldAddr
	fieldTo
	fieldWord
)

// form is how instructions of a kind are written: by which word, and which fields they use.
type form struct {
	word string
	uses fields
}

// An InstrOp has no word of its own: its operator's word stands for both.
var forms = [api.InstrCount]form{
	api.InstrSet:   {"set", fieldD | fieldWord},
	api.InstrOp:    {"", fieldOp | fieldD | fieldA | fieldB},
	api.InstrLoad:  {"load", fieldD | fieldAddr},
	api.InstrStore: {"store", fieldA | fieldAddr},
	api.InstrSwap:  {"swap", fieldD | fieldAddr},
	api.InstrFence: {"fence", 0},
	api.InstrPrint: {"print", fieldA},
	api.InstrJump:  {"jump", fieldTo},
	api.InstrZero:  {"zero", fieldA | fieldTo},
	api.InstrHalt:  {"halt", 0},
}

var operatorWords = [api.OpCount]string{
	api.OpAdd: "add", api.OpSub: "sub", api.OpMul: "mul", api.OpDiv: "div", api.OpRem: "rem",
	api.OpAnd: "and", api.OpOr: "or", api.OpXor: "xor", api.OpShl: "shl", api.OpShr: "shr",
	api.OpIs: "is", api.OpIsNot: "isnot", api.OpLess: "less", api.OpMost: "most", api.OpAbove: "above", api.OpLeast: "least",
	api.OpMinus: "minus", api.OpNot: "not",
}

func isKind(k api.InstrKind) bool { return k > api.InstrNone && k < api.InstrCount }

func isOperator(op api.Op) bool { return words.Level(op) > 0 }

// usedBy are the fields that an instruction uses; none, if its kind is none.
func usedBy(i api.Instr) fields {
	if !isKind(i.Kind) {
		return 0
	}
	uses := forms[i.Kind].uses
	if !words.Two(i.Op) {
		uses &^= fieldB
	}
	return uses
}

func (f fields) has(one fields) bool { return f&one != 0 }

// hand is what reads, or writes, an instruction's fields.
type hand struct {
	register, number func(n *int)
	word             func(w *int64)
}

// visit hands on the fields that an instruction uses, but Op, in the order of its text.
func (h hand) visit(i *api.Instr) {
	uses := usedBy(*i)
	for _, x := range [...]struct {
		field fields
		n     *int
		do    func(n *int)
	}{
		{fieldD, &i.D, h.register},
		{fieldA, &i.A, h.register},
		{fieldB, &i.B, h.register},
		{fieldAddr, &i.Addr, h.number},
		{fieldTo, &i.To, h.number},
	} {
		if uses.has(x.field) {
			x.do(x.n)
		}
	}
	if uses.has(fieldWord) {
		h.word(&i.Word)
	}
}

// wordOf is the word with which an instruction's text begins.
func wordOf(i api.Instr) string {
	if i.Kind == api.InstrOp {
		return operatorWords[i.Op]
	}
	return forms[i.Kind].word
}

// begun is an instruction of the kind, and with the operator, of which a word tells; false, if it tells of none.
func begun(word string) (api.Instr, bool) {
	if word == "" {
		return api.Instr{}, false
	}
	for kind, f := range forms {
		if f.word == word {
			return api.Instr{Kind: api.InstrKind(kind)}, true
		}
	}
	for op, w := range operatorWords {
		if w == word {
			return api.Instr{Kind: api.InstrOp, Op: api.Op(op)}, true
		}
	}
	return api.Instr{}, false
}
