package line_test

import (
	"math"
	"strings"
	"testing"

	"stile/line"
)

// Words are told as they stand, empty ones too; a line is done once all are read.
func TestNext(t *testing.T) {
	for _, s := range []string{"", "a", "a b", " ", " a", "a ", "a  b", "\t", "a\r", "load r1 -5 @3"} {
		r := line.New(s)
		for i, want := range strings.Split(s, " ") {
			if !r.More() || r.Done() {
				t.Errorf("%q is over at %d", s, i)
			}
			if got := r.Next(); got != want {
				t.Errorf("%q: %q, not %q", s, got, want)
			}
		}
		if r.More() || !r.Done() {
			t.Errorf("%q is not over", s)
		}
		if got := r.Next(); got != "" || r.More() || r.Done() {
			t.Errorf("%q: one more: %q", s, got)
		}
	}
}

func TestFail(t *testing.T) {
	r := line.New("a")
	r.Fail()
	if r.Next() != "a" || r.Done() {
		t.Error("what has failed is done")
	}
}

// Numbers, words and signs: what they are, and what is none.
func TestNumbers(t *testing.T) {
	number := func(r *line.Reader) int64 { n := 7; r.Number(&n); return int64(n) }
	word := func(r *line.Reader) int64 { w := int64(7); r.Word(&w); return w }
	behind := func(r *line.Reader) int64 { n := 7; r.Behind("r", &n); return int64(n) }
	for _, x := range []struct {
		text string
		read func(r *line.Reader) int64
		want int64
	}{
		{"0", number, 0}, {"10", number, 10}, {"9223372036854775807", number, math.MaxInt64},
		{"0", word, 0}, {"-5", word, -5}, {"-9223372036854775808", word, math.MinInt64}, {"9223372036854775807", word, math.MaxInt64},
		{"r0", behind, 0}, {"r15", behind, 15},
	} {
		r := line.New(x.text)
		if got := x.read(r); got != x.want || !r.Done() {
			t.Errorf("%q: %d, not %d; done: %v", x.text, got, x.want, r.Done())
		}
	}
	for _, x := range []struct {
		read  func(r *line.Reader) int64
		texts []string
	}{
		{number, []string{"", "-1", "00", "01", "+1", "1x", "x", "0x1", "1_0", "1e3", "9223372036854775808", "1 ", " 1", "r1", "-0"}},
		{word, []string{"", "-", "-0", "--1", "00", "-01", "+1", "1.0", "9223372036854775808", "-9223372036854775809", "1 2"}},
		{behind, []string{"", "r", "0", "R0", "r-1", "r01", "rr1", "r 1", "1r"}},
	} {
		for _, s := range x.texts {
			r := line.New(s)
			if x.read(r); r.Done() {
				t.Errorf("%q is none, but done", s)
			}
		}
	}
}
