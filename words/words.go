// Package words: words of 64 bits, and what operators make of them: see ../../shared/DOC.md and doc/01-words.md.
package words

import (
	"strconv"

	"stile/api"
)

// levelOne is the level of the operators of one: no operator of two has it.
const levelOne = 9

var levels = [api.OpCount]int{
	api.OpOr: 1, api.OpXor: 2, api.OpAnd: 3,
	api.OpIs: 4, api.OpIsNot: 4,
	api.OpLess: 5, api.OpMost: 5, api.OpAbove: 5, api.OpLeast: 5,
	api.OpShl: 6, api.OpShr: 6,
	api.OpAdd: 7, api.OpSub: 7,
	api.OpMul: 8, api.OpDiv: 8, api.OpRem: 8,
	api.OpMinus: levelOne, api.OpNot: levelOne,
}

var signs = [api.OpCount]string{
	api.OpOr: "|", api.OpXor: "^", api.OpAnd: "&",
	api.OpIs: "==", api.OpIsNot: "!=",
	api.OpLess: "<", api.OpMost: "<=", api.OpAbove: ">", api.OpLeast: ">=",
	api.OpShl: "<<", api.OpShr: ">>",
	api.OpAdd: "+", api.OpSub: "-",
	api.OpMul: "*", api.OpDiv: "/", api.OpRem: "%",
	api.OpMinus: "-", api.OpNot: "!",
}

// Do is an operator of two; One, one of one.
func Do(op api.Op, a, b int64) (int64, api.Errno) {
	if !Two(op) {
		return 0, api.ErrRange
	}
	return int64(operators()[op].two(word(a), word(b))), api.OK
}

func One(op api.Op, a int64) (int64, api.Errno) {
	if Level(op) != levelOne {
		return 0, api.ErrRange
	}
	return int64(operators()[op].one(word(a))), api.OK
}

// Two tells whether an operator is of two; Show writes one; Find reads one of two.
func Two(op api.Op) bool {
	level := Level(op)
	return level > 0 && level < levelOne
}

func Show(op api.Op) string {
	if op >= api.OpCount {
		return ""
	}
	return signs[op]
}

func Find(s string) (api.Op, bool) {
	// The minus of one has the sign of the difference: only what is of two may be found.
	found := func(op api.Op) bool { return Two(op) && signs[op] == s }
	for op := range api.OpCount {
		if found(op) {
			return op, true
		}
	}
	return api.OpNone, false
}

// Level is how strongly an operator binds; Turns tells whether its two may change about.
func Level(op api.Op) int {
	if op >= api.OpCount {
		return 0
	}
	return levels[op]
}

func Turns(op api.Op) bool {
	switch op {
	case api.OpAdd, api.OpMul, api.OpAnd, api.OpOr, api.OpXor, api.OpIs, api.OpIsNot:
		return true
	}
	return false
}

// Print writes a word; Parse reads one; the byte at fault, where there is one.
func Print(w int64) string { return strconv.FormatInt(w, 10) }

func Parse(s string) (int64, api.Errno, int) {
	r := reader{most: 1<<63 - 1}
	if len(s) > 0 && s[0] == '-' {
		r = reader{most: 1 << 63, below: true}
		s = s[1:]
	}
	for i := range len(s) {
		if !r.take(s[i]) {
			return 0, api.ErrNumber, r.at()
		}
	}
	if r.digits == 0 {
		return 0, api.ErrNumber, r.at()
	}
	return r.word(), api.OK, 0
}
