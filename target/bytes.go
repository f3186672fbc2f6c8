package target

import (
	"math"

	"stile/api"
)

// magic is what an object's bytes begin with.
const magic = "stil"

// A number's byte has so many of its bits, and one bit that tells whether another byte follows.
const (
	digitBits = 7
	lastDigit = 1<<digitBits - 1
)

type byteWriter struct{ b []byte }

func (w *byteWriter) object(o api.Object) {
	w.b = append(w.b, magic...)
	w.numbers(o.Shared, o.Locks, o.Buffer, len(o.Memory))
	for _, x := range o.Memory {
		w.word(&x)
	}
	w.numbers(len(o.Cores))
	for _, c := range o.Cores {
		w.numbers(len(c.Name))
		w.b = append(w.b, c.Name...)
		w.numbers(len(c.Code))
		for _, i := range c.Code {
			w.instruction(i)
		}
	}
}

func (w *byteWriter) instruction(i api.Instr) {
	w.numbers(int(i.Kind))
	if usedBy(i).has(fieldOp) {
		w.numbers(int(i.Op))
	}
	hand{w.number, w.number, w.word}.visit(&i)
	w.numbers(i.From)
}

func (w *byteWriter) numbers(l ...int) {
	for _, n := range l {
		w.number(&n)
	}
}

func (w *byteWriter) number(n *int) { w.digits(uint64(*n)) }

// word: the sign becomes the lowest bit.
func (w *byteWriter) word(x *int64) {
	size := uint64(*x) << 1
	if *x < 0 {
		size = ^size
	}
	w.digits(size)
}

func (w *byteWriter) digits(n uint64) {
	for ; n > lastDigit; n >>= digitBits {
		w.b = append(w.b, byte(n)|(lastDigit+1))
	}
	w.b = append(w.b, byte(n))
}

// byteReader takes what it reads off its rest; bad, once that was not as it must be: then nothing is left.
type byteReader struct {
	rest []byte
	bad  bool
}

// object reads all bytes; false, if they are not as they must be.
func (r *byteReader) object() (api.Object, bool) {
	var o api.Object
	if r.take(len(magic)) != magic {
		return o, false
	}
	for _, n := range [...]*int{&o.Shared, &o.Locks, &o.Buffer} {
		r.number(n)
	}
	o.Memory = listed(r, api.MaxMemory, r.word)
	o.Cores = listed(r, api.MaxThreads, r.core)
	return o, !r.bad && len(r.rest) == 0
}

func (r *byteReader) core(c *api.Core) {
	c.Name = r.take(r.count(api.MaxName))
	c.Code = listed(r, api.MaxCode, r.instruction)
}

func (r *byteReader) instruction(i *api.Instr) {
	i.Kind = api.InstrKind(r.count(int(api.InstrCount) - 1))
	if usedBy(*i).has(fieldOp) {
		i.Op = api.Op(r.count(int(api.OpCount) - 1))
	}
	hand{r.number, r.number, r.word}.visit(i)
	r.number(&i.From)
}

// listed reads how many things there are, at most so many, and then each of them.
func listed[T any](r *byteReader, most int, read func(one *T)) []T {
	var l []T
	for count := r.count(most); len(l) < count && !r.bad; {
		var one T
		read(&one)
		l = append(l, one)
	}
	return l
}

// take is the text of so many bytes.
func (r *byteReader) take(count int) string {
	if count > len(r.rest) {
		r.fail()
		return ""
	}
	s := string(r.rest[:count])
	r.rest = r.rest[count:]
	return s
}

func (r *byteReader) fail() { r.rest, r.bad = nil, true }

// count is a number of at most so many.
func (r *byteReader) count(most int) int {
	var n int
	r.number(&n)
	if n > most {
		r.fail()
		return 0
	}
	return n
}

func (r *byteReader) number(n *int) {
	size := r.digits()
	if size > math.MaxInt {
		r.fail()
		return
	}
	*n = int(size)
}

func (r *byteReader) word(w *int64) {
	size := r.digits()
	*w = int64(size >> 1)
	if size&1 == 1 {
		*w = ^*w
	}
}

// digits is a number that fits 64 bits, and has no needless bytes.
func (r *byteReader) digits() uint64 {
	var n uint64
	for at, c := range r.rest {
		digit, shift := uint64(c&lastDigit), at*digitBits
		n |= digit << shift
		if n>>shift != digit {
			break
		}
		if c <= lastDigit {
			if c == 0 && at > 0 {
				break
			}
			r.rest = r.rest[at+1:]
			return n
		}
	}
	r.fail()
	return 0
}
