package words

import "stile/api"

// word is a whole number of 64 bits that wraps round.
type word int64

// operator is what an operator makes of its two, or of its one; the other field is nil.
type operator struct {
	two func(a, b word) word
	one func(a word) word
}

func operators() [api.OpCount]operator {
	return [api.OpCount]operator{
		api.OpAdd:   {two: word.plus},
		api.OpSub:   {two: word.less},
		api.OpMul:   {two: word.times},
		api.OpDiv:   {two: word.over},
		api.OpRem:   {two: word.rest},
		api.OpAnd:   {two: word.and},
		api.OpOr:    {two: word.or},
		api.OpXor:   {two: word.xor},
		api.OpShl:   {two: word.left},
		api.OpShr:   {two: word.right},
		api.OpIs:    {two: func(a, b word) word { return truth(a == b) }},
		api.OpIsNot: {two: func(a, b word) word { return truth(a != b) }},
		api.OpLess:  {two: func(a, b word) word { return truth(a < b) }},
		api.OpMost:  {two: func(a, b word) word { return truth(a <= b) }},
		api.OpAbove: {two: func(a, b word) word { return truth(a > b) }},
		api.OpLeast: {two: func(a, b word) word { return truth(a >= b) }},
		api.OpMinus: {one: word.minus},
		api.OpNot:   {one: word.not},
	}
}

func (a word) plus(b word) word  { return a + b }
func (a word) less(b word) word  { return a - b }
func (a word) times(b word) word { return a * b }
func (a word) and(b word) word   { return a & b }
func (a word) or(b word) word    { return a | b }
func (a word) xor(b word) word   { return a ^ b }
func (a word) minus() word       { return -a }
func (a word) not() word         { return truth(a == 0) }

// over and rest are total: by 0 they are 0 and a itself.
func (a word) over(b word) word {
	if b == 0 {
		return 0
	}
	return a / b
}

func (a word) rest(b word) word {
	if b == 0 {
		return a
	}
	return a % b
}

func (a word) left(b word) word  { return a << b.shift() }
func (a word) right(b word) word { return a >> b.shift() }

// shift is how far a shift by b goes: its lowest six bits alone count.
func (b word) shift() uint { return uint(b & 63) }

func truth(is bool) word {
	if is {
		return 1
	}
	return 0
}
