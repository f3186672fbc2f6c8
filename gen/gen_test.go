package gen_test

import (
	"fmt"
	"math"
	"strings"
	"testing"

	"stile/api"
	"stile/cfg"
	"stile/gen"
	"stile/parse"
	"stile/regs"
	"stile/target"
)

func unit(t *testing.T, s string) api.Unit {
	t.Helper()
	p, why, f := parse.Parse(s)
	if why != api.OK {
		t.Fatalf("Parse(%.300q): error %d, %v", s, why, f)
	}
	u, why := cfg.Lower(p)
	if why != api.OK {
		t.Fatalf("Lower of %.300q: error %d", s, why)
	}
	return u
}

func assign(t *testing.T, u api.Unit, promote bool) []api.Alloc {
	t.Helper()
	l, why := regs.Assign(u, promote)
	if why != api.OK {
		t.Fatal("Assign: error", why)
	}
	return l
}

func generate(t *testing.T, u api.Unit, fences [][]int, places []api.Alloc, buffer int) api.Object {
	t.Helper()
	o, why := gen.Generate(u, fences, places, buffer)
	if why != api.OK {
		t.Fatal("Generate: error", why)
	}
	return o
}

func starts(t *testing.T, u api.Unit, fences [][]int, places []api.Alloc) [][]int {
	t.Helper()
	l, why := gen.Starts(u, fences, places)
	if why != api.OK {
		t.Fatal("Starts: error", why)
	}
	return l
}

func bare(u api.Unit) [][]int { return make([][]int, len(u.Graphs)) }

// shown is an object's text; lines, that of a core's code, a line's end being a bar.
func shown(t *testing.T, o api.Object) string {
	t.Helper()
	s, why := target.Print(o)
	if why != api.OK {
		t.Fatalf("%v: Print: error %d", o, why)
	}
	return s
}

func lines(c api.Core) string {
	var l []string
	for _, i := range c.Code {
		l = append(l, target.Show(i))
	}
	return strings.Join(l, "|")
}

func slot(n int) api.Value { return api.Value{IsSlot: true, Slot: n} }

func word(w int64) api.Value { return api.Value{Word: w} }

func reg(n int) api.Place { return api.Place{N: n} }

func cell(n int) api.Place { return api.Place{InCell: true, N: n} }

// made is a unit of one thread with these nodes and as many slots, over shared x, y and locks l, m: so its own cells begin at 4.
func made(slots int, nodes ...api.Node) api.Unit {
	for at := range nodes {
		nodes[at].Origin = at
	}
	return api.Unit{
		Shared: []api.Decl{{Name: "x"}, {Name: "y"}}, Locks: []api.Decl{{Name: "l"}, {Name: "m"}},
		Graphs: []api.Graph{{Name: "a", Slots: slots, Nodes: nodes}},
	}
}

// Example 1, and 3: a store, a load, a print; with a fence.
func TestExamples(t *testing.T) {
	u := unit(t, "shared x; thread a { x = 5; print x; }")
	const head, ahead, behind = "object 1 0 1\nmemory 0\ncore a\n", "set r13 5 @1\nstore r13 0 @1\n", "load r0 0 @2\nprint r0 @3\nhalt @4\n"
	for _, x := range []struct {
		fences [][]int
		want   string
	}{
		{[][]int{{}}, head + ahead + behind},
		{[][]int{{1}}, head + ahead + "fence @2\n" + behind},
	} {
		if got := shown(t, generate(t, u, x.fences, assign(t, u, true), 1)); got != x.want {
			t.Errorf("%v: %q, not %q", x.fences, got, x.want)
		}
	}
	if l := starts(t, u, [][]int{nil}, assign(t, u, true)); fmt.Sprint(l) != "[[0 2 3 4]]" {
		t.Error(l)
	}
	if l := starts(t, u, [][]int{{1}}, assign(t, u, true)); fmt.Sprint(l) != "[[0 2 4 5]]" {
		t.Error(l)
	}
}

// Example 2: a lock, taken and given back; what it is in memory.
func TestLocks(t *testing.T) {
	u := unit(t, "shared x; lock l; thread a { lock l { } }")
	want := "object 1 1 16\nmemory 0 0\ncore a\nset r15 1 @1\nswap r15 1 @1\nzero r15 4 @1\njump 0 @1\nset r15 0 @2\nstore r15 1 @2\nhalt @3\n"
	if got := shown(t, generate(t, u, [][]int{nil}, assign(t, u, true), api.MaxBuffer)); got != want {
		t.Errorf("%q, not %q", got, want)
	}
	// A fence ahead: who tries again does not come by it again. One ahead of giving back, and of the end.
	want = "fence @1|set r15 1 @1|swap r15 1 @1|zero r15 5 @1|jump 1 @1|fence @2|set r15 0 @2|store r15 1 @2|fence @3|halt @3"
	if got := lines(generate(t, u, [][]int{{0, 1, 2}}, assign(t, u, false), 1).Cores[0]); got != want {
		t.Errorf("%q, not %q", got, want)
	}
	u = unit(t, "shared x = 7, y = -1; lock l, m, n; thread a { x = 1; lock n { lock l { } } }")
	o := generate(t, u, bare(u), assign(t, u, true), 2)
	if fmt.Sprint(o.Memory, o.Shared, o.Locks, o.Buffer) != "[7 -1 0 0 0] 2 3 2" {
		t.Error(o)
	}
	want = "set r13 1 @1|store r13 0 @1|set r15 1 @2|swap r15 4 @2|zero r15 6 @2|jump 2 @2|set r15 1 @3|swap r15 2 @3|zero r15 10 @3|jump 6 @3|" +
		"set r15 0 @4|store r15 2 @4|set r15 0 @5|store r15 4 @5|halt @6"
	if got := lines(o.Cores[0]); got != want {
		t.Errorf("%q, not %q", got, want)
	}
}

// 17.1: what each kind of nodes is, wherever its slots are kept: 0 and 1 in registers 3 and 5, 2 and 3 in the cells at 4 and 6, 4 in register 3.
func TestKinds(t *testing.T) {
	places := []api.Alloc{{Places: []api.Place{reg(3), reg(5), cell(0), cell(2), reg(3)}, Cells: 3}}
	set := func(to int, v api.Value) api.Node { return api.Node{Kind: api.NodeSet, Slot: to, A: v} }
	op := func(op api.Op, to int, l ...api.Value) api.Node {
		return api.Node{Kind: api.NodeSet, Op: op, Slot: to, A: l[0], B: append(l, api.Value{})[1]}
	}
	load := func(to, thing int) api.Node { return api.Node{Kind: api.NodeLoad, Slot: to, Thing: thing} }
	store := func(thing int, v api.Value) api.Node { return api.Node{Kind: api.NodeStore, Thing: thing, A: v} }
	swap := func(to, thing int, v api.Value) api.Node {
		return api.Node{Kind: api.NodeSwap, Slot: to, Thing: thing, A: v}
	}
	print := func(v api.Value) api.Node { return api.Node{Kind: api.NodePrint, A: v} }
	for _, x := range []struct {
		n    api.Node
		want string
	}{
		{set(0, word(-9)), "set r3 -9"},
		{set(2, word(math.MinInt64)), "set r15 -9223372036854775808|store r15 4"},
		{set(0, slot(1)), "or r3 r5 r5"},
		{set(1, slot(1)), "or r5 r5 r5"},
		{set(4, slot(0)), "or r3 r3 r3"},
		{set(0, slot(2)), "load r3 4"},
		{set(3, slot(1)), "or r15 r5 r5|store r15 6"},
		{set(3, slot(2)), "load r15 4|store r15 6"},
		{set(3, slot(3)), "load r15 6|store r15 6"},
		{op(api.OpMinus, 0, word(4)), "set r13 4|minus r3 r13"},
		{op(api.OpNot, 0, slot(1)), "not r3 r5"},
		{op(api.OpNot, 0, slot(0)), "not r3 r3"},
		{op(api.OpMinus, 2, slot(3)), "load r13 6|minus r15 r13|store r15 4"},
		{op(api.OpMinus, 2, slot(1)), "minus r15 r5|store r15 4"},
		{op(api.OpAdd, 0, slot(1), slot(4)), "add r3 r5 r3"},
		{op(api.OpSub, 1, word(2), slot(1)), "set r13 2|sub r5 r13 r5"},
		{op(api.OpSub, 1, slot(1), word(2)), "set r14 2|sub r5 r5 r14"},
		{op(api.OpShl, 1, word(1), word(2)), "set r13 1|set r14 2|shl r5 r13 r14"},
		{op(api.OpLess, 0, slot(2), slot(0)), "load r13 4|less r3 r13 r3"},
		{op(api.OpLeast, 0, slot(0), slot(2)), "load r14 4|least r3 r3 r14"},
		{op(api.OpOr, 3, slot(3), slot(3)), "load r13 6|load r14 6|or r15 r13 r14|store r15 6"},
		{op(api.OpRem, 3, slot(2), word(7)), "load r13 4|set r14 7|rem r15 r13 r14|store r15 6"},
		{load(1, 1), "load r5 1"},
		{load(2, 0), "load r15 0|store r15 4"},
		{store(1, word(6)), "set r13 6|store r13 1"},
		{store(0, slot(0)), "store r3 0"},
		{store(1, slot(3)), "load r13 6|store r13 1"},
		{swap(0, 1, word(8)), "set r15 8|swap r15 1|or r3 r15 r15"},
		{swap(0, 1, slot(0)), "or r15 r3 r3|swap r15 1|or r3 r15 r15"},
		{swap(1, 0, slot(2)), "load r15 4|swap r15 0|or r5 r15 r15"},
		{swap(2, 0, slot(1)), "or r15 r5 r5|swap r15 0|store r15 4"},
		{swap(3, 1, slot(3)), "load r15 6|swap r15 1|store r15 6"},
		{swap(3, 1, word(0)), "set r15 0|swap r15 1|store r15 6"},
		{print(word(3)), "set r13 3|print r13"},
		{print(slot(1)), "print r5"},
		{print(slot(2)), "load r13 4|print r13"},
	} {
		x.n.Next = 1
		u := made(5, x.n, api.Node{Kind: api.NodeEnd})
		if got := strings.ReplaceAll(lines(generate(t, u, bare(u), places, 1).Cores[0]), " @1", ""); got != x.want+"|halt @2" {
			t.Errorf("%v: %q, not %q", x.n, got, x.want)
		}
	}
}

// 17.1, 17.2: where nodes lead; those without code; fences ahead of all kinds; where nodes come from.
func TestLinks(t *testing.T) {
	places := []api.Alloc{{Places: []api.Place{reg(0), cell(0)}, Cells: 1}}
	print := func(next int) api.Node { return api.Node{Kind: api.NodePrint, A: slot(0), Next: next} }
	branch := func(v api.Value, next, other int) api.Node {
		return api.Node{Kind: api.NodeBranch, A: v, Next: next, Else: other}
	}
	lock := func(next int) api.Node { return api.Node{Kind: api.NodeLock, Next: next} }
	unlock := func(next int) api.Node { return api.Node{Kind: api.NodeUnlock, Next: next} }
	end := api.Node{Kind: api.NodeEnd}
	for _, x := range []struct {
		nodes  []api.Node
		fences []int
		want   string
		starts string
	}{
		{[]api.Node{end}, nil, "halt @1", "[0]"},
		{[]api.Node{end, end}, []int{1}, "halt @1|fence @2|halt @2", "[0 1]"},
		{[]api.Node{print(0)}, nil, "print r0 @1|jump 0 @1", "[0]"},
		{[]api.Node{print(0)}, []int{0}, "fence @1|print r0 @1|jump 0 @1", "[0]"},
		{[]api.Node{print(2), end, print(1)}, nil, "print r0 @1|jump 3 @1|halt @2|print r0 @3|jump 2 @3", "[0 2 3]"},
		// A branch to either side; back; by a word, a register, a cell.
		{[]api.Node{branch(slot(0), 1, 2), end, end}, nil, "zero r0 2 @1|halt @2|halt @3", "[0 1 2]"},
		{[]api.Node{branch(slot(0), 2, 1), end, end}, nil, "zero r0 2 @1|jump 3 @1|halt @2|halt @3", "[0 2 3]"},
		{[]api.Node{branch(slot(1), 1, 0), end}, nil, "load r13 4 @1|zero r13 0 @1|halt @2", "[0 2]"},
		{[]api.Node{branch(word(6), 0, 1), end}, []int{0, 1}, "fence @1|set r13 6 @1|zero r13 4 @1|jump 0 @1|fence @2|halt @2", "[0 4]"},
		// One that leads to one node alone has no code of its own, whatever it asks for.
		{[]api.Node{branch(slot(1), 1, 1), end}, nil, "halt @2", "[0 0]"},
		{[]api.Node{branch(slot(1), 1, 1), end}, []int{0}, "fence @1|halt @2", "[0 1]"},
		{[]api.Node{branch(slot(1), 1, 1), end}, []int{1}, "fence @2|halt @2", "[0 0]"},
		{[]api.Node{branch(slot(1), 1, 1), branch(word(1), 2, 2), branch(word(1), 3, 3), print(1)}, nil, "print r0 @4|jump 0 @4", "[0 0 0 0]"},
		{[]api.Node{branch(slot(0), 0, 0)}, nil, "jump 0 @1", "[0]"},
		{[]api.Node{branch(slot(0), 2, 2), end, branch(slot(0), 1, 1)}, nil, "jump 2 @1|halt @2|jump 1 @3", "[0 1 2]"},
		// A lock that is not the first, and is not followed by the next.
		{[]api.Node{print(2), unlock(3), lock(1), end}, nil,
			"print r0 @1|jump 5 @1|set r15 0 @2|store r15 2 @2|jump 10 @2|set r15 1 @3|swap r15 2 @3|zero r15 9 @3|jump 5 @3|jump 2 @3|halt @4", "[0 2 5 10]"},
		// Nodes that are not reached have code, too.
		{[]api.Node{end, unlock(1), print(0)}, nil, "halt @1|set r15 0 @2|store r15 2 @2|jump 1 @2|print r0 @3|jump 0 @3", "[0 1 4]"},
	} {
		u := made(2, x.nodes...)
		fences := [][]int{x.fences}
		if got := lines(generate(t, u, fences, places, 1).Cores[0]); got != x.want {
			t.Errorf("%v: %q, not %q", x.nodes, got, x.want)
		}
		if got := starts(t, u, fences, places); len(got) != 1 || fmt.Sprint(got[0]) != x.starts {
			t.Errorf("%v: Starts %v, not %s", x.nodes, got, x.starts)
		}
	}
}

// 17.1: threads have cells of their own, one behind another; From is the origin and 1, whatever the number.
func TestThreads(t *testing.T) {
	u := unit(t, "shared x = 3; lock l; thread a { local r; r = 1; print r; } thread b { } thread c_2 { local r, s; r = x; s = r; print s; }")
	u.Graphs[2].Nodes[0].Origin = 9
	u.Graphs[2].Nodes[1].Origin = api.MaxNodes - 1
	places := []api.Alloc{
		{Places: []api.Place{cell(4)}, Cells: 5}, {Cells: 2},
		{Places: []api.Place{cell(1), cell(0), cell(1)}, Cells: 3},
	}
	want := "object 1 1 7\nmemory 3 0 0 0 0 0 0 0 0 0 0 0\n" +
		"core a\nset r15 1 @1\nstore r15 6 @1\nload r13 6 @2\nprint r13 @2\nhalt @3\n" +
		"core b\nfence @1\nhalt @1\n" +
		"core c_2\nload r15 0 @10\nstore r15 10 @10\nfence @4096\nload r15 10 @4096\nstore r15 10 @4096\nload r15 10 @3\nstore r15 9 @3\nload r13 9 @4\nprint r13 @4\nhalt @5\n"
	fences := [][]int{nil, {0}, {1}}
	if got := shown(t, generate(t, u, fences, places, 7)); got != want {
		t.Errorf("%q, not %q", got, want)
	}
	if got := fmt.Sprint(starts(t, u, fences, places)); got != "[[0 2 4] [0] [0 2 5 7 9]]" {
		t.Error(got)
	}
	if o := generate(t, api.Unit{}, nil, nil, 1); !target.Same(o, api.Object{Buffer: 1}) {
		t.Error(o)
	}
	if l := starts(t, api.Unit{}, [][]int{}, []api.Alloc{}); len(l) != 0 {
		t.Error(l)
	}
	u = unit(t, "shared x = -4, y; lock l; ")
	if o := generate(t, u, nil, nil, 1); !target.Same(o, api.Object{Memory: []int64{-4, 0, 0}, Shared: 2, Locks: 1, Buffer: 1}) {
		t.Error(o)
	}
}
