package lexer

import (
	"math"
	"strings"
)

var languageWords = [...]string{"shared", "lock", "thread", "local", "if", "else", "while", "print", "skip", "swap"}

var longSigns = [...]string{"==", "!=", "<=", ">=", "<<", ">>"}

const shortSigns = "(){},;=+-*/%&|^!<>"

func isBlank(c byte) bool { return c == ' ' || c == '\t' || c == '\n' || c == '\r' }
func isDigit(c byte) bool { return c >= '0' && c <= '9' }
func isNamed(c byte) bool { return isLetter(c) || isDigit(c) }
func isSign(c byte) bool  { return strings.IndexByte(shortSigns, c) >= 0 }
func notFeed(c byte) bool { return c != '\n' }

func isLetter(c byte) bool {
	return c >= 'a' && c <= 'z' || c >= 'A' && c <= 'Z' || c == '_'
}

// span is how many bytes at the beginning of a text are such.
func span(s string, such func(c byte) bool) int {
	for i := range len(s) {
		if !such(s[i]) {
			return i
		}
	}
	return len(s)
}

// signAhead is the length of the longest sign at the beginning of a text; 0, if there is none.
func signAhead(s string) int {
	for _, l := range longSigns {
		if strings.HasPrefix(s, l) {
			return len(l)
		}
	}
	if s != "" && isSign(s[0]) {
		return 1
	}
	return 0
}

// value is what the digits of a number say; false, if they are none, or say too much, or have a needless nought.
func value(s string) (int64, bool) {
	if s == "" || len(s) > 1 && s[0] == '0' {
		return 0, false
	}
	var w int64
	for i := range len(s) {
		if !isDigit(s[i]) {
			return 0, false
		}
		digit := int64(s[i] - '0')
		if w > (math.MaxInt64-digit)/10 {
			return 0, false
		}
		w = w*10 + digit
	}
	return w, true
}
