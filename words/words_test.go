package words_test

import (
	"math"
	"math/big"
	"runtime"
	"strings"
	"testing"
	"time"

	"stile/api"
	"stile/words"
)

const (
	least = math.MinInt64
	great = math.MaxInt64
)

// row is what chapter 1 says of an operator.
type row struct {
	op    api.Op
	sign  string
	level int
	two   bool
	turns bool
}

func rows() []row {
	return []row{
		{api.OpOr, "|", 1, true, true}, {api.OpXor, "^", 2, true, true}, {api.OpAnd, "&", 3, true, true},
		{api.OpIs, "==", 4, true, true}, {api.OpIsNot, "!=", 4, true, true},
		{api.OpLess, "<", 5, true, false}, {api.OpMost, "<=", 5, true, false},
		{api.OpAbove, ">", 5, true, false}, {api.OpLeast, ">=", 5, true, false},
		{api.OpShl, "<<", 6, true, false}, {api.OpShr, ">>", 6, true, false},
		{api.OpAdd, "+", 7, true, true}, {api.OpSub, "-", 7, true, false},
		{api.OpMul, "*", 8, true, true}, {api.OpDiv, "/", 8, true, false}, {api.OpRem, "%", 8, true, false},
		{api.OpMinus, "-", 9, false, false}, {api.OpNot, "!", 9, false, false},
	}
}

// some are words of all sizes: the edges, and others by a fixed rule.
func some() []int64 {
	l := []int64{0, 1, -1, 2, -2, 3, 5, -7, 7, 10, 62, 63, 64, 65, 70, -63, -64, great, great - 1, least, least + 1, 1 << 31, -1 << 31, 1 << 32, 1<<62 - 1, 1 << 62}
	x := uint64(0x9e3779b97f4a7c15)
	for i := range 40 {
		x ^= x << 13
		x ^= x >> 7
		x ^= x << 17
		l = append(l, int64(x)>>(i%60))
	}
	return l
}

func wrapped(x *big.Int) int64 {
	ring := new(big.Int).Lsh(big.NewInt(1), 64)
	return int64(new(big.Int).Mod(x, ring).Uint64())
}

func truth(is bool) *big.Int {
	if is {
		return big.NewInt(1)
	}
	return big.NewInt(0)
}

// by is what chapter 1 says an operator makes of two, reckoned with numbers that do not wrap.
func by(op api.Op, x, y int64) int64 {
	a, b, z := big.NewInt(x), big.NewInt(y), new(big.Int)
	shift := uint(uint64(y) % 64)
	switch op {
	case api.OpAdd:
		z.Add(a, b)
	case api.OpSub:
		z.Sub(a, b)
	case api.OpMul:
		z.Mul(a, b)
	case api.OpDiv:
		if y != 0 {
			z.Quo(a, b)
		}
	case api.OpRem:
		if z.Set(a); y != 0 {
			z.Rem(a, b)
		}
	case api.OpAnd:
		z.And(a, b)
	case api.OpOr:
		z.Or(a, b)
	case api.OpXor:
		z.Xor(a, b)
	case api.OpShl:
		z.Lsh(a, shift)
	case api.OpShr:
		z.Div(a, new(big.Int).Lsh(big.NewInt(1), shift))
	case api.OpIs:
		z = truth(a.Cmp(b) == 0)
	case api.OpIsNot:
		z = truth(a.Cmp(b) != 0)
	case api.OpLess:
		z = truth(a.Cmp(b) < 0)
	case api.OpMost:
		z = truth(a.Cmp(b) <= 0)
	case api.OpAbove:
		z = truth(a.Cmp(b) > 0)
	case api.OpLeast:
		z = truth(a.Cmp(b) >= 0)
	}
	return wrapped(z)
}

func do(t *testing.T, op api.Op, a, b int64) int64 {
	t.Helper()
	w, why := words.Do(op, a, b)
	if why != api.OK {
		t.Fatalf("Do(%d, %d, %d): error %d", op, a, b, why)
	}
	return w
}

func one(t *testing.T, op api.Op, a int64) int64 {
	t.Helper()
	w, why := words.One(op, a)
	if why != api.OK {
		t.Fatalf("One(%d, %d): error %d", op, a, why)
	}
	return w
}

// 1.1: each operator of two, on all pairs.
func TestDo(t *testing.T) {
	for _, r := range rows() {
		for _, a := range some() {
			for _, b := range some() {
				if !r.two {
					if w, why := words.Do(r.op, a, b); w != 0 || why != api.ErrRange {
						t.Fatalf("Do(%d, %d, %d) = %d, error %d", r.op, a, b, w, why)
					}
				} else if got, want := do(t, r.op, a, b), by(r.op, a, b); got != want {
					t.Errorf("%d %s %d = %d, not %d", a, r.sign, b, got, want)
				}
			}
		}
	}
}

// 1.1: the chapter's examples, and the edges that it names.
func TestDoExamples(t *testing.T) {
	for _, x := range []struct {
		op         api.Op
		a, b, want int64
	}{
		{api.OpAdd, great, 1, least}, {api.OpSub, least, 1, great}, {api.OpMul, great, 2, -2},
		{api.OpDiv, 5, 0, 0}, {api.OpRem, 5, 0, 5}, {api.OpRem, least, 0, least},
		{api.OpDiv, -7, 2, -3}, {api.OpRem, -7, 2, -1}, {api.OpDiv, 7, -2, -3}, {api.OpRem, 7, -2, 1},
		{api.OpDiv, least, -1, least}, {api.OpRem, least, -1, 0},
		{api.OpShl, 1, 64, 1}, {api.OpShl, 1, 63, least}, {api.OpShl, 3, -64, 3}, {api.OpShl, 1, -1, least},
		{api.OpShr, -1, 70, -1}, {api.OpShr, -7, 1, -4}, {api.OpShr, least, 63, -1}, {api.OpShr, 8, 65, 4},
		{api.OpLess, 3, 3, 0}, {api.OpMost, 3, 3, 1}, {api.OpAbove, 3, 3, 0}, {api.OpLeast, 3, 3, 1},
		{api.OpLess, least, great, 1}, {api.OpIs, -1, -1, 1}, {api.OpIsNot, -1, -1, 0},
	} {
		if got := do(t, x.op, x.a, x.b); got != x.want {
			t.Errorf("Do(%d, %d, %d) = %d, not %d", x.op, x.a, x.b, got, x.want)
		}
	}
}

// 1.1: operators of one.
func TestOne(t *testing.T) {
	for _, a := range some() {
		if got, want := one(t, api.OpMinus, a), wrapped(new(big.Int).Neg(big.NewInt(a))); got != want {
			t.Errorf("- %d = %d, not %d", a, got, want)
		}
		if got, want := one(t, api.OpNot, a), truth(a == 0).Int64(); got != want {
			t.Errorf("! %d = %d, not %d", a, got, want)
		}
		for _, r := range rows() {
			if w, why := words.One(r.op, a); r.two && (w != 0 || why != api.ErrRange) {
				t.Errorf("One(%d, %d) = %d, error %d", r.op, a, w, why)
			}
		}
	}
	if one(t, api.OpMinus, least) != least || one(t, api.OpNot, 7) != 0 || one(t, api.OpNot, 0) != 1 {
		t.Error("the edges")
	}
}

// 1.1, 1.2: what is told of each operator.
func TestOperators(t *testing.T) {
	if len(rows()) != int(api.OpCount)-1 {
		t.Fatal("a row for each operator")
	}
	for _, r := range rows() {
		if words.Two(r.op) != r.two || words.Show(r.op) != r.sign || words.Level(r.op) != r.level || words.Turns(r.op) != r.turns {
			t.Errorf("%s: %v %q %d %v", r.sign, words.Two(r.op), words.Show(r.op), words.Level(r.op), words.Turns(r.op))
		}
	}
}

// 1.1, 1.2, P1, P2: numbers that are no operator's.
func TestNoOperator(t *testing.T) {
	for n := range 256 {
		op := api.Op(n)
		if op > api.OpNone && op < api.OpCount {
			continue
		}
		if words.Two(op) || words.Turns(op) || words.Show(op) != "" || words.Level(op) != 0 {
			t.Errorf("%d is told to be an operator", n)
		}
		if w, why := words.Do(op, 3, 4); w != 0 || why != api.ErrRange {
			t.Errorf("Do(%d): %d, error %d", n, w, why)
		}
		if w, why := words.One(op, 3); w != 0 || why != api.ErrRange {
			t.Errorf("One(%d): %d, error %d", n, w, why)
		}
	}
}

// 1.2: signs that are an operator's of two, and others.
func TestFind(t *testing.T) {
	for _, r := range rows() {
		op, is := words.Find(r.sign)
		if r.two && (op != r.op || !is) {
			t.Errorf("Find(%q) = %d, %v", r.sign, op, is)
		}
	}
	if op, is := words.Find("-"); op != api.OpSub || !is {
		t.Error("the minus that is found is that of two")
	}
	for _, s := range []string{"", "!", "=", "<<<", "=<", "&&", "||", " +", "+ ", "+-", "x", "0", "\x00", "\xff"} {
		if op, is := words.Find(s); op != api.OpNone || is {
			t.Errorf("Find(%q) = %d, %v", s, op, is)
		}
	}
}

// 1.3: the texts of words.
func TestPrint(t *testing.T) {
	for _, w := range some() {
		if got, want := words.Print(w), big.NewInt(w).String(); got != want {
			t.Errorf("Print(%d) = %q", w, got)
		}
	}
	if words.Print(0) != "0" || words.Print(least) != "-9223372036854775808" || words.Print(great) != "9223372036854775807" {
		t.Error("the edges")
	}
}

// 1.3: the chapter's examples, and wrong texts of every sort.
func TestParseExamples(t *testing.T) {
	for s, at := range map[string]int{
		"": 0, "-": 1, "-0": 1, "007": 1, "00": 1, "-00": 1, "-01": 1, "5x": 1, "x": 0, "+5": 0, " 5": 0, "5 ": 1,
		"--1": 1, "1-": 1, "0-": 1, "0x1": 1, "1_0": 1, "-x": 1, "\xff": 0, "1\x00": 1,
		"9223372036854775808": 18, "9223372036854775810": 18, "9223372036854775800x": 19, "92233720368547758070": 19, "10000000000000000000": 19,
		"99999999999999999999": 18, "-9223372036854775809": 19, "-92233720368547758080": 20, "18446744073709551616": 19,
		"9" + strings.Repeat("9", 99): 18, "1" + strings.Repeat("0", 99): 19,
	} {
		if w, why, got := words.Parse(s); w != 0 || why != api.ErrNumber || got != at {
			t.Errorf("Parse(%q) = %d, error %d at %d, not at %d", s, w, why, got, at)
		}
	}
	for s, want := range map[string]int64{"0": 0, "-1": -1, "7": 7, "10": 10, "9223372036854775807": great, "-9223372036854775808": least, "1000000000000000000": 1e18} {
		if w, why, at := words.Parse(s); w != want || why != api.OK || at != 0 {
			t.Errorf("Parse(%q) = %d, error %d at %d", s, w, why, at)
		}
	}
}

// goesOn tells whether a word's text begins with s.
func goesOn(s string) bool {
	if s == "" || s == "-" {
		return true
	}
	n, ok := new(big.Int).SetString(s, 10)
	return ok && n.IsInt64() && n.String() == s
}

// 1.3: where texts of few signs go wrong, held against what a word's text is.
func TestParsePlaces(t *testing.T) {
	const signs = "-0918x"
	x := uint64(1)
	for range 20000 {
		s := []string{"", "", "92233720368547758", "-92233720368547758"}[x>>60&3]
		for range x >> 40 & 7 {
			x = x*6364136223846793005 + 1442695040888963407
			s += string(signs[x>>33%uint64(len(signs))])
		}
		x = x*6364136223846793005 + 1442695040888963407
		at := 0
		for at < len(s) && goesOn(s[:at+1]) {
			at++
		}
		w, why, got := words.Parse(s)
		if at == len(s) && s != "" && s != "-" {
			if why != api.OK || got != 0 || words.Print(w) != s {
				t.Fatalf("Parse(%q) = %d, error %d at %d", s, w, why, got)
			}
		} else if w != 0 || why != api.ErrNumber || got != at {
			t.Fatalf("Parse(%q) = %d, error %d at %d, not at %d", s, w, why, got, at)
		}
	}
}

// 1.4: + and * are a ring's.
func TestRing(t *testing.T) {
	l := some()[10:40]
	for _, a := range l {
		for _, b := range l {
			if do(t, api.OpAdd, a, b) != do(t, api.OpAdd, b, a) || do(t, api.OpMul, a, b) != do(t, api.OpMul, b, a) {
				t.Fatal("commutative:", a, b)
			}
			if do(t, api.OpSub, a, b) != do(t, api.OpAdd, a, one(t, api.OpMinus, b)) {
				t.Fatal("minus:", a, b)
			}
			for _, c := range l {
				for _, op := range []api.Op{api.OpAdd, api.OpMul} {
					if do(t, op, do(t, op, a, b), c) != do(t, op, a, do(t, op, b, c)) {
						t.Fatal("associative:", op, a, b, c)
					}
				}
				if do(t, api.OpMul, a, do(t, api.OpAdd, b, c)) != do(t, api.OpAdd, do(t, api.OpMul, a, b), do(t, api.OpMul, a, c)) {
					t.Fatal("goes over:", a, b, c)
				}
			}
		}
	}
}

// 1.5: bits.
func TestBits(t *testing.T) {
	for _, a := range some() {
		if not := one(t, api.OpNot, one(t, api.OpNot, a)); not != truth(a != 0).Int64() {
			t.Error("! of !:", a, not)
		}
		for _, b := range some() {
			if do(t, api.OpXor, do(t, api.OpXor, a, b), b) != a {
				t.Error("^:", a, b)
			}
			if do(t, api.OpAnd, a, b)+do(t, api.OpOr, a, b) != do(t, api.OpAdd, a, b) {
				t.Error("& and |:", a, b)
			}
		}
		for n := range int64(63) {
			if do(t, api.OpShl, a, n) != do(t, api.OpMul, a, 1<<n) {
				t.Error("<<:", a, n)
			}
		}
	}
}

// 1.6: order.
func TestOrder(t *testing.T) {
	for _, a := range some() {
		for _, b := range some() {
			if do(t, api.OpLess, a, b)+do(t, api.OpIs, a, b)+do(t, api.OpAbove, a, b) != 1 {
				t.Error("< == >:", a, b)
			}
			if do(t, api.OpMost, a, b) != one(t, api.OpNot, do(t, api.OpAbove, a, b)) {
				t.Error("<=:", a, b)
			}
			for op := range api.OpCount {
				if words.Turns(op) && do(t, op, a, b) != do(t, op, b, a) {
					t.Error("turns:", op, a, b)
				}
			}
		}
	}
}

// 1.7: division.
func TestDivision(t *testing.T) {
	for _, a := range some() {
		for _, b := range some() {
			if b == 0 {
				continue
			}
			rest := do(t, api.OpRem, a, b)
			if do(t, api.OpAdd, do(t, api.OpMul, do(t, api.OpDiv, a, b), b), rest) != a {
				t.Error("a / b * b + a % b:", a, b)
			}
			if big.NewInt(rest).CmpAbs(big.NewInt(b)) >= 0 || rest < 0 && a > 0 || rest > 0 && a < 0 {
				t.Error("the rest:", a, b, rest)
			}
		}
	}
}

// 1.8: there and back.
func TestBack(t *testing.T) {
	for _, w := range some() {
		if got, why, at := words.Parse(words.Print(w)); got != w || why != api.OK || at != 0 {
			t.Errorf("Parse(Print(%d)) = %d, error %d at %d", w, got, why, at)
		}
	}
	for _, s := range []string{"0", "9", "-9", "90", "123456789012345678", "9223372036854775807", "-9223372036854775808"} {
		if w, why, _ := words.Parse(s); why != api.OK || words.Print(w) != s {
			t.Errorf("Print of what Parse takes: %q, %q", s, words.Print(w))
		}
	}
	for op := range api.OpCount {
		if got, is := words.Find(words.Show(op)); words.Two(op) && (got != op || !is) {
			t.Errorf("Find(Show(%d)) = %d, %v", op, got, is)
		}
	}
}

// P3, P4: the same answers at each time, and from many at one time; no goroutine is left.
func TestAlways(t *testing.T) {
	ahead := runtime.NumGoroutine()
	done := make(chan int64)
	for range 8 {
		go func() {
			sum := int64(0)
			for op := range api.Op(32) {
				for _, a := range some() {
					for _, b := range some() {
						w, why := words.Do(op, a, b)
						sum = sum*31 + w + int64(why)
					}
				}
			}
			done <- sum
		}()
	}
	first := <-done
	for range 7 {
		if <-done != first {
			t.Error("two answers to one question")
		}
	}
	words.Parse("12")
	words.Print(12)
	for range 1000 {
		if runtime.NumGoroutine() <= ahead {
			return
		}
		time.Sleep(time.Millisecond)
	}
	t.Error("goroutines are left")
}
