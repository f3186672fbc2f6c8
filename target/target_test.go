package target_test

import (
	"bytes"
	"fmt"
	"math"
	"slices"
	"strings"
	"testing"

	"stile/api"
	"stile/target"
	"stile/words"
)

// example is one right instruction of each kind, with fields that are not 0, and what the chapter says of it.
type example struct {
	i       api.Instr
	text    string
	bytes   []byte
	reads   []int
	writes  int // -1: none
	follows []int
}

func examples() []example {
	return []example{
		{api.Instr{Kind: api.InstrSet, D: 15, Word: -5, From: 4096}, "set r15 -5 @4096", []byte{1, 15, 9, 0x80, 0x20}, nil, 15, []int{8}},
		{api.Instr{Kind: api.InstrOp, Op: api.OpAdd, D: 2, A: 1, B: 4, From: 3}, "add r2 r1 r4 @3", []byte{2, 1, 2, 1, 4, 3}, []int{1, 4}, 2, []int{8}},
		{api.Instr{Kind: api.InstrOp, Op: api.OpNot, D: 3, A: 9}, "not r3 r9", []byte{2, 18, 3, 9, 0}, []int{9}, 3, []int{8}},
		{api.Instr{Kind: api.InstrLoad, D: 7, Addr: 4}, "load r7 4", []byte{3, 7, 4, 0}, nil, 7, []int{8}},
		{api.Instr{Kind: api.InstrStore, A: 8, Addr: 300}, "store r8 300", []byte{4, 8, 0xac, 2, 0}, []int{8}, -1, []int{8}},
		{api.Instr{Kind: api.InstrSwap, D: 6, Addr: 1, From: 128}, "swap r6 1 @128", []byte{5, 6, 1, 0x80, 1}, []int{6}, 6, []int{8}},
		{api.Instr{Kind: api.InstrFence, From: 1}, "fence @1", []byte{6, 1}, nil, -1, []int{8}},
		{api.Instr{Kind: api.InstrPrint, A: 5}, "print r5", []byte{7, 5, 0}, []int{5}, -1, []int{8}},
		{api.Instr{Kind: api.InstrJump, To: 127}, "jump 127", []byte{8, 127, 0}, nil, -1, []int{127}},
		{api.Instr{Kind: api.InstrZero, A: 1, To: 4}, "zero r1 4", []byte{9, 1, 4, 0}, []int{1}, -1, []int{8, 4}},
		{api.Instr{Kind: api.InstrHalt, From: 2}, "halt @2", []byte{10, 2}, nil, -1, nil},
	}
}

// 16.1 to 16.4: what each kind is, in all forms.
func TestKinds(t *testing.T) {
	for _, x := range examples() {
		if got := target.Show(x.i); got != x.text {
			t.Errorf("Show(%v) = %q, not %q", x.i, got, x.text)
		}
		if got := target.Reads(x.i); !slices.Equal(got, x.reads) {
			t.Errorf("Reads(%v) = %v", x.i, got)
		}
		if d, is := target.Writes(x.i); is != (x.writes >= 0) || d != max(x.writes, 0) {
			t.Errorf("Writes(%v) = %d, %v", x.i, d, is)
		}
		if got := target.Follows(x.i, 7); !slices.Equal(got, x.follows) {
			t.Errorf("Follows(%v) = %v", x.i, got)
		}
		o := around(x.i)
		if s, why := target.Print(o); why != api.OK || !strings.Contains(s, "\n"+x.text+"\n") {
			t.Errorf("Print has no line %q: %q, error %d", x.text, s, why)
		}
		if b, why := target.Encode(o); why != api.OK || !bytes.Contains(b, slices.Concat([]byte{10, 0}, x.bytes, []byte{10, 0})) {
			t.Errorf("Encode has not the bytes %x: %x, error %d", x.bytes, b, why)
		}
	}
}

// around is a right object with an instruction in the midst.
func around(i api.Instr) api.Object {
	halt := api.Instr{Kind: api.InstrHalt}
	code := slices.Repeat([]api.Instr{halt}, 130)
	code[64] = i
	return api.Object{Memory: make([]int64, 400), Shared: 3, Locks: 2, Buffer: 4, Cores: []api.Core{{Name: "a", Code: code}}}
}

// 16.2: which kinds drain, and what no kind does.
func TestNoKinds(t *testing.T) {
	for n := range 256 {
		k := api.InstrKind(n)
		if want := k == api.InstrSwap || k == api.InstrFence || k == api.InstrPrint; target.Drains(k) != want {
			t.Errorf("Drains(%d) = %v", k, !want)
		}
		if k > api.InstrNone && k < api.InstrCount {
			continue
		}
		i := api.Instr{Kind: k, Op: api.OpAdd, D: 1, A: 2, B: 3, Addr: 4, To: 5, Word: 6, From: 7}
		d, is := target.Writes(i)
		if target.Reads(i) != nil || d != 0 || is || target.Follows(i, 3) != nil || target.Show(i) != "" || target.Right(i, 100, 100) {
			t.Errorf("%d is told to be a kind", k)
		}
		if target.Show(api.Instr{Kind: k}) != "" || target.Right(api.Instr{Kind: k}, 100, 100) {
			t.Errorf("%d is told to be a kind", k)
		}
	}
}

// 16.2: of any instruction, right or not.
func TestNotRight(t *testing.T) {
	for _, x := range []struct {
		i     api.Instr
		reads []int
		d     int
		is    bool
	}{
		{api.Instr{Kind: api.InstrOp, A: -4, B: 99, D: -7}, []int{-4}, -7, true},
		{api.Instr{Kind: api.InstrOp, Op: 255, A: 5, B: 99, D: 1}, []int{5}, 1, true},
		{api.Instr{Kind: api.InstrOp, Op: api.OpMinus, A: 5, B: 99, D: 1}, []int{5}, 1, true},
		{api.Instr{Kind: api.InstrOp, Op: api.OpMul, A: 99, B: 99, D: 99}, []int{99, 99}, 99, true},
		{api.Instr{Kind: api.InstrOp, Op: api.OpLeast, A: 1, B: -2, D: math.MinInt}, []int{1, -2}, math.MinInt, true},
		{api.Instr{Kind: api.InstrSet, Op: api.OpMul, A: 99, B: 99, D: 20}, nil, 20, true},
		{api.Instr{Kind: api.InstrStore, Op: api.OpMul, A: -1, B: 99, D: 20}, []int{-1}, 0, false},
		{api.Instr{Kind: api.InstrPrint, Op: api.OpMul, A: 16, B: 99, D: 20}, []int{16}, 0, false},
		{api.Instr{Kind: api.InstrZero, Op: api.OpMul, A: 16, B: 99, D: 20}, []int{16}, 0, false},
		{api.Instr{Kind: api.InstrSwap, Op: api.OpMul, A: 16, B: 99, D: 20}, []int{20}, 20, true},
		{api.Instr{Kind: api.InstrLoad, Op: api.OpMul, A: 16, B: 99, D: -20}, nil, -20, true},
		{api.Instr{Kind: api.InstrFence, Op: api.OpMul, A: 16, B: 99, D: -20}, nil, 0, false},
	} {
		if l := target.Reads(x.i); !slices.Equal(l, x.reads) {
			t.Errorf("Reads(%v) = %v", x.i, l)
		}
		if d, is := target.Writes(x.i); d != x.d || is != x.is {
			t.Errorf("Writes(%v) = %d, %v", x.i, d, is)
		}
	}
	for _, x := range []struct {
		i    api.Instr
		at   int
		want []int
	}{
		{api.Instr{Kind: api.InstrSet}, math.MaxInt, []int{math.MinInt}},
		{api.Instr{Kind: api.InstrZero, To: -3}, math.MaxInt, []int{math.MinInt, -3}},
		{api.Instr{Kind: api.InstrZero, To: 5}, 4, []int{5, 5}},
		{api.Instr{Kind: api.InstrJump, To: math.MinInt}, 4, []int{math.MinInt}},
		{api.Instr{Kind: api.InstrOp, Op: 99}, -1, []int{0}},
		{api.Instr{Kind: api.InstrHalt, To: 9}, 4, nil},
		{api.Instr{Kind: api.InstrPrint, To: 9}, math.MinInt, []int{math.MinInt + 1}},
	} {
		if l := target.Follows(x.i, x.at); !slices.Equal(l, x.want) {
			t.Errorf("Follows(%v, %d) = %v", x.i, x.at, l)
		}
	}
}

// numbers are an instruction's, by the names of its fields.
func numbers(i *api.Instr) map[string]*int {
	return map[string]*int{"D": &i.D, "A": &i.A, "B": &i.B, "Addr": &i.Addr, "To": &i.To, "From": &i.From}
}

// 16.1: each field of each kind, at its edges and beyond; what a kind does not use must be zero.
func TestRight(t *testing.T) {
	const code, memory = 500, 700
	uses := map[api.InstrKind]string{
		api.InstrSet: " D Word ", api.InstrOp: " D A B ", api.InstrLoad: " D Addr ", api.InstrStore: " A Addr ", api.InstrSwap: " D Addr ",
		api.InstrFence: "", api.InstrPrint: " A ", api.InstrJump: " To ", api.InstrZero: " A To ", api.InstrHalt: "",
	}
	most := map[string]int{"D": 15, "A": 15, "B": 15, "Addr": memory - 1, "To": code - 1, "From": 4096}
	for kind, used := range uses {
		i := api.Instr{Kind: kind}
		if kind == api.InstrOp {
			i.Op = api.OpXor
		}
		for name := range numbers(&i) {
			last := most[name]
			if name != "From" && !strings.Contains(used, " "+name+" ") {
				last = 0
			}
			for _, n := range []int{0, 1, last, last + 1, -1, 15, 16, 4096, 4097, math.MaxInt, math.MinInt} {
				j := i
				*numbers(&j)[name] = n
				if want := n >= 0 && n <= last; target.Right(j, code, memory) != want {
					t.Errorf("Right of %v with %s %d is %v", i, name, n, !want)
				}
			}
		}
		for _, w := range []int64{1, -1, math.MaxInt64, math.MinInt64} {
			j := i
			j.Word = w
			if want := kind == api.InstrSet; target.Right(j, code, memory) != want {
				t.Errorf("Right of %v with a Word is %v", i, !want)
			}
		}
		for n := range 256 {
			j := i
			j.Op = api.Op(n)
			want := n == 0
			if kind == api.InstrOp {
				want = n > 0 && n < int(api.OpCount)
			}
			if target.Right(j, code, memory) != want {
				t.Errorf("Right of %v with the operator %d is %v", i, n, !want)
			}
			j.B = 1
			if want = want && words.Two(j.Op); target.Right(j, code, memory) != want {
				t.Errorf("Right of %v with the operator %d and B is %v", i, n, !want)
			}
		}
	}
}

// 16.1: a code of no instructions, or fewer; no words, or fewer.
func TestRightOver(t *testing.T) {
	jump, zero := api.Instr{Kind: api.InstrJump}, api.Instr{Kind: api.InstrZero}
	load, store, swap := api.Instr{Kind: api.InstrLoad}, api.Instr{Kind: api.InstrStore}, api.Instr{Kind: api.InstrSwap}
	for _, n := range []int{0, -1, math.MinInt} {
		for _, i := range []api.Instr{jump, zero} {
			if target.Right(i, n, 9) || !target.Right(i, 1, n) {
				t.Errorf("Right of %v in a code of %d", i, n)
			}
		}
		for _, i := range []api.Instr{load, store, swap} {
			if target.Right(i, 9, n) || !target.Right(i, n, 1) {
				t.Errorf("Right of %v over %d words", i, n)
			}
		}
		if !target.Right(api.Instr{Kind: api.InstrHalt}, n, n) || !target.Right(api.Instr{Kind: api.InstrSet}, n, n) {
			t.Error("Right of what names neither")
		}
	}
	jump.To, load.Addr = math.MaxInt-1, math.MaxInt-1
	if !target.Right(jump, math.MaxInt, 0) || !target.Right(load, 0, math.MaxInt) || target.Right(jump, math.MaxInt-1, 0) || target.Right(load, 0, math.MaxInt-1) {
		t.Error("Right at the greatest numbers")
	}
}

// 16.3: Show's text is of any instruction that is right in some code, over some words.
func TestShow(t *testing.T) {
	for _, x := range []struct {
		i    api.Instr
		want string
	}{
		{api.Instr{Kind: api.InstrOp, Op: api.OpAdd, D: 2, A: 1, B: 0, From: 3}, "add r2 r1 r0 @3"},
		{api.Instr{Kind: api.InstrSet, Word: -5}, "set r0 -5"},
		{api.Instr{Kind: api.InstrZero, A: 1, To: 4}, "zero r1 4"},
		{api.Instr{Kind: api.InstrSet, A: 1}, ""},
		{api.Instr{Kind: api.InstrSet, Word: math.MinInt64}, "set r0 -9223372036854775808"},
		{api.Instr{Kind: api.InstrJump, To: 1 << 40}, "jump 1099511627776"},
		{api.Instr{Kind: api.InstrStore, Addr: 1 << 40}, "store r0 1099511627776"},
		{api.Instr{Kind: api.InstrJump, To: -1}, ""},
		{api.Instr{Kind: api.InstrLoad, Addr: -1}, ""},
		{api.Instr{Kind: api.InstrLoad, D: 16}, ""},
		{api.Instr{Kind: api.InstrHalt, From: 4097}, ""},
		{api.Instr{Kind: api.InstrHalt, From: -1}, ""},
		{api.Instr{Kind: api.InstrOp}, ""},
		{api.Instr{Kind: api.InstrOp, Op: api.OpCount}, ""},
		{api.Instr{Kind: api.InstrOp, Op: api.OpMinus, B: 1}, ""},
		{api.Instr{}, ""},
	} {
		if got := target.Show(x.i); got != x.want {
			t.Errorf("Show(%v) = %q, not %q", x.i, got, x.want)
		}
	}
	names := "add sub mul div rem and or xor shl shr is isnot less most above least minus not"
	for n, name := range strings.Fields(names) {
		op := api.Op(n + 1)
		want := name + " r3 r4 r0"
		if !words.Two(op) {
			want = name + " r3 r4"
		}
		if got := target.Show(api.Instr{Kind: api.InstrOp, Op: op, D: 3, A: 4}); got != want {
			t.Errorf("Show of the operator %d = %q, not %q", op, got, want)
		}
	}
}

func halt(name string) api.Core {
	return api.Core{Name: name, Code: []api.Instr{{Kind: api.InstrHalt}}}
}

func some() api.Object {
	return api.Object{
		Memory: []int64{5, 0, -7, math.MaxInt64}, Shared: 2, Locks: 1, Buffer: 16,
		Cores: []api.Core{
			{Name: "a", Code: []api.Instr{
				{Kind: api.InstrSet, D: 1, Word: 300, From: 1}, {Kind: api.InstrStore, A: 1, Addr: 3, From: 1},
				{Kind: api.InstrZero, A: 1, To: 0, From: 2}, {Kind: api.InstrJump, To: 1},
			}},
			{Name: "b_2", Code: []api.Instr{{Kind: api.InstrOp, Op: api.OpMinus, D: 3, A: 4, From: 200}, {Kind: api.InstrHalt}}},
		},
	}
}

const someText = "object 2 1 16\nmemory 5 0 -7 9223372036854775807\ncore a\nset r1 300 @1\nstore r1 3 @1\nzero r1 0 @2\njump 1\ncore b_2\nminus r3 r4 @200\nhalt\n"

func someBytes() []byte {
	return slices.Concat([]byte("stil"), []byte{2, 1, 16, 4, 10, 0, 13, 0xfe, 0xff, 0xff, 0xff, 0xff, 0xff, 0xff, 0xff, 0xff, 1, 2},
		[]byte{1, 'a', 4, 1, 1, 0xd8, 4, 1, 4, 1, 3, 1, 9, 1, 0, 2, 8, 1, 0},
		[]byte{3, 'b', '_', '2', 2, 2, 17, 3, 4, 0xc8, 1, 10, 0})
}

// 16.3, 16.4: the chapter's examples, and one more, there and back.
func TestForms(t *testing.T) {
	empty := api.Object{Buffer: 1}
	one := api.Object{Buffer: 1, Cores: []api.Core{halt("A")}}
	for _, x := range []struct {
		o    api.Object
		text string
		b    []byte
	}{
		{empty, "object 0 0 1\nmemory\n", []byte{0x73, 0x74, 0x69, 0x6c, 0, 0, 1, 0, 0}},
		{one, "object 0 0 1\nmemory\ncore A\nhalt\n", []byte{0x73, 0x74, 0x69, 0x6c, 0, 0, 1, 0, 1, 1, 0x41, 1, 0x0a, 0}},
		{some(), someText, someBytes()},
	} {
		if s, why := target.Print(x.o); why != api.OK || s != x.text {
			t.Errorf("Print = %q, error %d, not %q", s, why, x.text)
		}
		if o, why, at := target.Parse(x.text); why != api.OK || at != 0 || !target.Same(o, x.o) {
			t.Errorf("Parse(%q) = %v, error %d at %d", x.text, o, why, at)
		}
		if b, why := target.Encode(x.o); why != api.OK || !bytes.Equal(b, x.b) {
			t.Errorf("Encode = %x, error %d, not %x", b, why, x.b)
		}
		if o, why := target.Decode(x.b); why != api.OK || !target.Same(o, x.o) {
			t.Errorf("Decode(%x) = %v, error %d", x.b, o, why)
		}
	}
}

// spoilt are objects that are not right, though their instructions are.
func spoilt() []func(o *api.Object) {
	return []func(o *api.Object){
		func(o *api.Object) { o.Shared = -1 },
		func(o *api.Object) { o.Shared, o.Memory = 65, make([]int64, 100) },
		func(o *api.Object) { o.Shared = math.MaxInt },
		func(o *api.Object) { o.Locks = -1 },
		func(o *api.Object) { o.Locks, o.Memory = 17, make([]int64, 100) },
		func(o *api.Object) { o.Locks = math.MinInt },
		func(o *api.Object) { o.Shared, o.Locks = 3, 2 },
		func(o *api.Object) { o.Shared = 4 },
		func(o *api.Object) { o.Memory = make([]int64, api.MaxMemory+1) },
		func(o *api.Object) { o.Buffer = 0 },
		func(o *api.Object) { o.Buffer = -1 },
		func(o *api.Object) { o.Buffer = 17 },
		func(o *api.Object) {
			for n := range 7 {
				o.Cores = append(o.Cores, halt(fmt.Sprint("c", n)))
			}
		},
		func(o *api.Object) { o.Cores[1].Name = "a" },
		func(o *api.Object) { o.Cores[0].Name = "" },
		func(o *api.Object) { o.Cores[0].Name = "9a" },
		func(o *api.Object) { o.Cores[0].Name = "while" },
		func(o *api.Object) { o.Cores[0].Name = "a\xff" },
		func(o *api.Object) { o.Cores[1].Name = strings.Repeat("b", 33) },
		func(o *api.Object) { o.Cores[1].Code = nil },
		func(o *api.Object) { o.Cores[1].Code = make([]api.Instr, api.MaxCode+1) },
		func(o *api.Object) {
			o.Cores[1].Code = slices.Repeat([]api.Instr{{Kind: api.InstrHalt}}, api.MaxCode+1)
		},
		func(o *api.Object) { o.Cores[1].Code[1] = api.Instr{Kind: api.InstrFence} },
		func(o *api.Object) { o.Cores[1].Code[1] = api.Instr{Kind: api.InstrZero} },
		func(o *api.Object) { o.Cores[1].Code[1] = api.Instr{} },
		func(o *api.Object) { o.Cores[0].Code = o.Cores[0].Code[:3] },
	}
}

// 16.1, 16.3, 16.4: objects that are not right are refused by all that write.
func TestCheck(t *testing.T) {
	refused := func(o api.Object, core, at int) {
		t.Helper()
		if why, c, n := target.Check(o); why != api.ErrObject || c != core || n != at {
			t.Errorf("Check = error %d, %d, %d, not at %d, %d", why, c, n, core, at)
		}
		if s, why := target.Print(o); s != "" || why != api.ErrObject {
			t.Errorf("Print = %q, error %d", s, why)
		}
		if b, why := target.Encode(o); b != nil || why != api.ErrObject {
			t.Errorf("Encode = %x, error %d", b, why)
		}
	}
	for _, spoil := range spoilt() {
		o := some()
		spoil(&o)
		refused(o, 0, 0)
		// What is not an instruction's comes first, wherever it stands.
		o = some()
		o.Cores[0].Code[1].D = 1
		spoil(&o)
		refused(o, 0, 0)
	}
	for core, c := range some().Cores {
		for at := range c.Code {
			for _, spoil := range []func(i *api.Instr){
				func(i *api.Instr) { i.From = -1 },
				func(i *api.Instr) { i.Word, i.Addr = 1, 1 },
				func(i *api.Instr) { i.B = 17 },
				func(i *api.Instr) { i.To = 4 },
			} {
				o := some()
				spoil(&o.Cores[core].Code[at])
				last := &o.Cores[1].Code[1]
				last.D = 9
				refused(o, core, at)
			}
		}
	}
	o := some()
	o.Cores[0].Code[1].Addr = 4
	refused(o, 0, 1)
	refused(api.Object{}, 0, 0)
}

// 16.1: objects that are right, at their edges.
func TestCheckEdges(t *testing.T) {
	for _, change := range []func(o *api.Object){
		func(o *api.Object) {},
		func(o *api.Object) { o.Shared, o.Locks, o.Memory = 64, 16, make([]int64, 80) },
		func(o *api.Object) { o.Memory = make([]int64, api.MaxMemory) },
		func(o *api.Object) { o.Shared, o.Locks = 0, 0 },
		func(o *api.Object) { o.Shared, o.Locks = 3, 1 },
		func(o *api.Object) { o.Buffer = 1 },
		func(o *api.Object) { o.Cores = nil },
		func(o *api.Object) {
			for n := range 6 {
				o.Cores = append(o.Cores, halt(fmt.Sprint("c", n)))
			}
		},
		func(o *api.Object) { o.Cores[1].Name = strings.Repeat("b", 32) },
		func(o *api.Object) { o.Cores[1].Name = "A" },
		func(o *api.Object) {
			o.Cores[1].Code = slices.Repeat([]api.Instr{{Kind: api.InstrHalt}}, api.MaxCode)
			o.Cores[1].Code[api.MaxCode-1] = api.Instr{Kind: api.InstrJump, To: api.MaxCode - 1, From: 4096}
		},
	} {
		o := some()
		change(&o)
		if why, core, at := target.Check(o); why != api.OK || core != 0 || at != 0 {
			t.Errorf("Check = error %d, %d, %d", why, core, at)
		}
		there(t, o)
	}
}

// there holds that an object is read as it was written, in both forms: 16.6.
func there(t *testing.T, o api.Object) {
	t.Helper()
	s, why := target.Print(o)
	p, no, at := target.Parse(s)
	if why != api.OK || no != api.OK || at != 0 || !target.Same(o, p) {
		t.Errorf("error %d, error %d at %d: %.300q", why, no, at, s)
	}
	b, why := target.Encode(o)
	q, no := target.Decode(b)
	if why != api.OK || no != api.OK || !target.Same(o, q) || len(b) > api.MaxBytes {
		t.Errorf("error %d, error %d: %.300x", why, no, b)
	}
}

// 16.4: each field, in all lists; nil lists and empty ones are alike.
func TestSame(t *testing.T) {
	for _, change := range []func(o *api.Object){
		func(o *api.Object) { o.Shared++ },
		func(o *api.Object) { o.Locks-- },
		func(o *api.Object) { o.Buffer = -1 },
		func(o *api.Object) { o.Memory[2]++ },
		func(o *api.Object) { o.Memory = o.Memory[:3] },
		func(o *api.Object) { o.Memory = append(o.Memory, 0) },
		func(o *api.Object) { o.Cores = o.Cores[:1] },
		func(o *api.Object) { o.Cores = append(o.Cores, api.Core{}) },
		func(o *api.Object) { o.Cores[1].Name = "b" },
		func(o *api.Object) { o.Cores[1].Code = o.Cores[1].Code[:1] },
		func(o *api.Object) { o.Cores[0].Code = append(o.Cores[0].Code, api.Instr{}) },
		func(o *api.Object) { o.Cores[0], o.Cores[1] = o.Cores[1], o.Cores[0] },
		func(o *api.Object) { o.Cores[0].Code[2].Kind = 77 },
		func(o *api.Object) { o.Cores[0].Code[2].Op = 77 },
		func(o *api.Object) { o.Cores[0].Code[2].D = -1 },
		func(o *api.Object) { o.Cores[0].Code[2].A++ },
		func(o *api.Object) { o.Cores[0].Code[2].B++ },
		func(o *api.Object) { o.Cores[0].Code[2].Addr++ },
		func(o *api.Object) { o.Cores[0].Code[2].To++ },
		func(o *api.Object) { o.Cores[0].Code[2].Word++ },
		func(o *api.Object) { o.Cores[0].Code[2].From++ },
	} {
		o, p := some(), some()
		change(&p)
		if target.Same(o, p) || target.Same(p, o) {
			t.Errorf("%v is told to be %v", o, p)
		}
		change(&o)
		if !target.Same(o, p) || !target.Same(p, o) {
			t.Errorf("%v is told not to be %v", o, p)
		}
	}
	o := api.Object{Memory: []int64{}, Cores: []api.Core{}}
	if !target.Same(o, api.Object{}) || !target.Same(api.Object{}, o) {
		t.Error("no list is not an empty one")
	}
	o.Cores = append(o.Cores, api.Core{Code: []api.Instr{}})
	if !target.Same(o, api.Object{Cores: make([]api.Core, 1)}) {
		t.Error("no list is not an empty one")
	}
}
