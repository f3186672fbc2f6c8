package lexer

import (
	"strings"

	"stile/api"
)

// The rules that a token may break, in their order.
const (
	ruleNone = iota
	ruleBegin
	ruleName
	ruleNumber
	ruleLetter
)

// scanner goes through a text from its beginning on: at is the byte that comes next, fault the first one (Rule 0: none yet).
type scanner struct {
	text  string
	at    int
	fault api.Fault
}

// family is a family of tokens: how the first byte is known, and what finds the whole token that begins there.
type family struct {
	begins func(c byte) bool
	find   func() (api.Token, api.Fault)
}

func (x *scanner) families() [3]family {
	return [3]family{{isLetter, x.name}, {isDigit, x.number}, {isSign, x.sign}}
}

// tokens yields the tokens ahead of the first fault, till it is told to stop.
func (x *scanner) tokens(yield func(api.Token) bool) {
	families := x.families()
	for x.pass(); x.at < len(x.text); x.pass() {
		t, fault := x.next(families)
		if fault.Rule != ruleNone {
			x.fault = fault
			return
		}
		x.at += len(t.Text)
		if !yield(t) {
			return
		}
	}
}

// pass goes over blanks and remarks.
func (x *scanner) pass() {
	for {
		rest := x.text[x.at:]
		n := span(rest, isBlank)
		if strings.HasPrefix(rest, "//") {
			n = span(rest, notFeed)
		}
		if n == 0 {
			return
		}
		x.at += n
	}
}

func (x *scanner) next(families [3]family) (api.Token, api.Fault) {
	for _, f := range families {
		if f.begins(x.text[x.at]) {
			return f.find()
		}
	}
	return api.Token{}, api.Fault{At: x.at, Rule: ruleBegin}
}

func (x *scanner) name() (api.Token, api.Fault) {
	s := x.text[x.at:]
	s = s[:span(s, isNamed)]
	if Word(s) {
		return x.token(api.TokenWord, s, 0)
	}
	if len(s) > api.MaxName {
		return api.Token{}, api.Fault{At: x.at + api.MaxName, Rule: ruleName}
	}
	return x.token(api.TokenName, s, 0)
}

func (x *scanner) number() (api.Token, api.Fault) {
	rest := x.text[x.at:]
	n := span(rest, isDigit)
	w, ok := value(rest[:n])
	if !ok {
		return api.Token{}, api.Fault{At: x.at, Rule: ruleNumber}
	}
	if n < len(rest) && isLetter(rest[n]) {
		return api.Token{}, api.Fault{At: x.at + n, Rule: ruleLetter}
	}
	return x.token(api.TokenNumber, rest[:n], w)
}

func (x *scanner) sign() (api.Token, api.Fault) {
	rest := x.text[x.at:]
	return x.token(api.TokenSign, rest[:signAhead(rest)], 0)
}

func (x *scanner) token(kind api.TokenKind, s string, w int64) (api.Token, api.Fault) {
	return api.Token{Kind: kind, Text: strings.Clone(s), Word: w, At: x.at}, api.Fault{}
}
