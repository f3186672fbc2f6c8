// Package lexer: a text as tokens: see ../../shared/DOC.md and doc/02-lexer.md.
package lexer

import (
	"iter"
	"strings"

	"stile/api"
)

// Name tells whether a text may be a name; Word, whether it is a word of the language; Sign, whether it is a sign.
func Name(s string) bool {
	if s == "" || len(s) > api.MaxName || isDigit(s[0]) || Word(s) {
		return false
	}
	return span(s, isNamed) == len(s)
}

func Word(s string) bool {
	for _, w := range languageWords {
		if w == s {
			return true
		}
	}
	return false
}

func Sign(s string) bool { return s != "" && signAhead(s) == len(s) }

// Scan cuts a text into tokens; the first fault, where there is one.
func Scan(s string) ([]api.Token, api.Errno, api.Fault) {
	if len(s) > api.MaxText {
		return nil, api.ErrLong, api.Fault{}
	}
	x := scanner{text: s}
	var l []api.Token
	for t := range x.tokens {
		l = append(l, t)
	}
	if x.fault.Rule != 0 {
		return nil, api.ErrLex, x.fault
	}
	return l, api.OK, api.Fault{}
}

// Each yields tokens one by one, up to the first fault.
func Each(s string) iter.Seq[api.Token] {
	if len(s) > api.MaxText {
		return func(func(api.Token) bool) {}
	}
	s = strings.Clone(s) // what is handed in is not kept till the tokens are asked for
	return func(yield func(api.Token) bool) {
		if yield != nil {
			x := scanner{text: s}
			x.tokens(yield)
		}
	}
}

// Print writes tokens, with a blank between.
func Print(l []api.Token) (string, api.Errno) {
	size := 0
	for i, t := range l {
		if !may(t) {
			return "", api.ErrRange
		}
		if i > 0 {
			size++
		}
		size += len(t.Text)
	}
	if size > api.MaxText {
		return "", api.ErrLong
	}
	var b strings.Builder
	for i, t := range l {
		if i > 0 {
			b.WriteByte(' ')
		}
		b.WriteString(t.Text)
	}
	return b.String(), api.OK
}

// may tells whether Scan tells such a token of some text, but for its place.
func may(t api.Token) bool {
	if t.Kind == api.TokenNumber {
		w, ok := value(t.Text)
		return ok && w == t.Word
	}
	if t.Word != 0 {
		return false
	}
	switch t.Kind {
	case api.TokenName:
		return Name(t.Text)
	case api.TokenWord:
		return Word(t.Text)
	case api.TokenSign:
		return Sign(t.Text)
	}
	return false
}

// Place is the line and the column of a byte, both from 1 on.
func Place(s string, at int) (int, int, api.Errno) {
	if at < 0 || at > len(s) {
		return 0, 0, api.ErrRange
	}
	ahead := s[:at]
	return 1 + strings.Count(ahead, "\n"), at - strings.LastIndexByte(ahead, '\n'), api.OK
}
