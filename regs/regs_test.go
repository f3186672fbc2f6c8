package regs_test

import (
	"fmt"
	"math"
	"slices"
	"strings"
	"testing"

	"stile/api"
	"stile/cfg"
	"stile/parse"
	"stile/regs"
)

func unit(t *testing.T, s string) api.Unit {
	t.Helper()
	p, why, f := parse.Parse(s)
	if why != api.OK {
		t.Fatalf("Parse(%.300q): error %d, %v", s, why, f)
	}
	u, why := cfg.Lower(p)
	if why != api.OK {
		t.Fatalf("Lower of %.300q: error %d", s, why)
	}
	return u
}

func live(t *testing.T, u api.Unit, thread int) [][]int {
	t.Helper()
	l, why := regs.Live(u, thread)
	if why != api.OK {
		t.Fatal("Live: error", why)
	}
	return l
}

func clash(t *testing.T, u api.Unit, thread, a, b int) bool {
	t.Helper()
	is, why := regs.Clash(u, thread, a, b)
	if why != api.OK {
		t.Fatal("Clash: error", why)
	}
	return is
}

func weight(t *testing.T, u api.Unit, thread, slot int) int {
	t.Helper()
	n, why := regs.Weight(u, thread, slot)
	if why != api.OK {
		t.Fatal("Weight: error", why)
	}
	return n
}

func assign(t *testing.T, u api.Unit, promote bool) []api.Alloc {
	t.Helper()
	l, why := regs.Assign(u, promote)
	if why != api.OK {
		t.Fatal("Assign: error", why)
	}
	return l
}

func right(t *testing.T, u api.Unit, l []api.Alloc) bool {
	t.Helper()
	is, why := regs.Right(u, l)
	if why != api.OK {
		t.Fatal("Right: error", why)
	}
	return is
}

// placed is where a thread's slots are kept, as text: r3 a register, c0 a cell; then how many cells there are.
func placed(a api.Alloc) string {
	var l []string
	for _, p := range a.Places {
		sign := "r"
		if p.InCell {
			sign = "c"
		}
		l = append(l, sign+fmt.Sprint(p.N))
	}
	return fmt.Sprint(strings.Join(l, " "), ", ", a.Cells)
}

func slot(n int) api.Value { return api.Value{IsSlot: true, Slot: n} }

func word(w int64) api.Value { return api.Value{Word: w} }

func set(to int, v api.Value, next int) api.Node {
	return api.Node{Kind: api.NodeSet, Slot: to, A: v, Next: next}
}

func print(v api.Value, next int) api.Node {
	return api.Node{Kind: api.NodePrint, A: v, Next: next}
}

func branch(v api.Value, next, other int) api.Node {
	return api.Node{Kind: api.NodeBranch, A: v, Next: next, Else: other}
}

func end() api.Node { return api.Node{Kind: api.NodeEnd} }

// made is a unit of one thread with these nodes, over shared x and a lock l.
func made(slots int, nodes ...api.Node) api.Unit {
	for at := range nodes {
		nodes[at].Origin = at
	}
	return api.Unit{
		Shared: []api.Decl{{Name: "x"}}, Locks: []api.Decl{{Name: "l"}},
		Graphs: []api.Graph{{Name: "a", Slots: slots, Nodes: nodes}},
	}
}

// 15.1, 15.2: the chapter's examples.
func TestExamples(t *testing.T) {
	u := unit(t, "thread a { local r, s; r = 1; s = 2; print r + s; }")
	if !clash(t, u, 0, 0, 1) || clash(t, u, 0, 0, 2) || clash(t, u, 0, 1, 2) {
		t.Error("clashes of r, s and the sum")
	}
	if got := placed(assign(t, u, true)[0]); got != "r0 r1 r0, 0" {
		t.Error(got)
	}
	if got := placed(assign(t, u, false)[0]); got != "c0 c1 c2, 3" {
		t.Error(got)
	}
	v := unit(t, "thread a { local r, s; r = 1; print r; s = 2; print s; }")
	if clash(t, v, 0, 0, 1) {
		t.Error("r and s clash")
	}
	if got := placed(assign(t, v, true)[0]); got != "r0 r0, 0" {
		t.Error(got)
	}
	w := unit(t, "thread a { local r, s, u; while (r) { } while (1) { while (s) { } } }")
	if n, k, z := weight(t, w, 0, 0), weight(t, w, 0, 1), weight(t, w, 0, 2); n != 8 || k != 64 || z != 0 {
		t.Error(n, k, z)
	}
	for _, promote := range []bool{false, true} {
		l := assign(t, w, promote)[0]
		if l.Places[2] != (api.Place{}) || l.Places[0] == (api.Place{}) != promote {
			t.Error(l)
		}
	}
}

// 15.1: what each kind of node uses and defines.
func TestLive(t *testing.T) {
	sum := api.Node{Kind: api.NodeSet, Op: api.OpAdd, Slot: 2, A: slot(0), B: slot(1), Next: 1}
	minus := api.Node{Kind: api.NodeSet, Op: api.OpMinus, Slot: 0, A: slot(1), Next: 1}
	lock := api.Node{Kind: api.NodeLock, Next: 1}
	unlock := api.Node{Kind: api.NodeUnlock, Next: 2}
	for _, x := range []struct {
		nodes []api.Node
		want  string
	}{
		// Slot 3 is asked for at the end: it goes through all that does not define it.
		{[]api.Node{sum, print(slot(3), 2), end()}, "[[0 1 3] [3] []]"},
		{[]api.Node{minus, print(slot(3), 2), end()}, "[[1 3] [3] []]"},
		{[]api.Node{set(3, word(1), 1), print(slot(3), 2), end()}, "[[] [3] []]"},
		{[]api.Node{set(3, slot(3), 1), print(slot(3), 2), end()}, "[[3] [3] []]"},
		{[]api.Node{{Kind: api.NodeSet, Op: api.OpSub, Slot: 3, A: word(1), B: slot(3), Next: 1}, end()}, "[[3] []]"},
		{[]api.Node{{Kind: api.NodeLoad, Slot: 3, Next: 1}, print(slot(3), 2), end()}, "[[] [3] []]"},
		{[]api.Node{{Kind: api.NodeStore, A: slot(1), Next: 1}, print(slot(3), 2), end()}, "[[1 3] [3] []]"},
		{[]api.Node{{Kind: api.NodeSwap, Slot: 3, A: slot(1), Next: 1}, print(slot(3), 2), end()}, "[[1] [3] []]"},
		{[]api.Node{{Kind: api.NodeSwap, Slot: 3, A: slot(3), Next: 1}, print(slot(3), 2), end()}, "[[3] [3] []]"},
		{[]api.Node{lock, unlock, print(slot(0), 3), end()}, "[[0] [0] [0] []]"},
		// What slot 0 has is never asked for by a number, though fields that are not used are 0, too.
		{[]api.Node{print(word(0), 1), end()}, "[[] []]"},
		// Either way of a branch.
		{[]api.Node{branch(slot(0), 1, 2), print(slot(1), 3), print(slot(2), 3), end()}, "[[0 1 2] [1] [2] []]"},
		{[]api.Node{branch(word(1), 1, 2), set(2, word(1), 2), print(slot(2), 3), end()}, "[[2] [] [2] []]"},
		// Round a ring, and never to an end.
		{[]api.Node{print(slot(0), 1), set(1, slot(0), 2), print(slot(1), 0)}, "[[0] [0] [0 1]]"},
		{[]api.Node{set(0, slot(1), 0)}, "[[1]]"},
		// Not reached: neither has it live slots, nor does it count.
		{[]api.Node{set(1, word(1), 3), print(slot(0), 3), set(3, slot(1), 0), print(slot(2), 4), end()}, "[[2] [] [] [2] []]"},
	} {
		u := made(4, x.nodes...)
		if got := fmt.Sprint(live(t, u, 0)); got != x.want {
			t.Errorf("Live of %v = %s, not %s", x.nodes, got, x.want)
		}
	}
	two := unit(t, "shared x; thread a { local r; print r; } thread b { x = 1; }")
	if got := fmt.Sprint(live(t, two, 0), live(t, two, 1)); got != "[[0] []] [[] []]" {
		t.Error(got)
	}
}

// 15.1, 15.7: what clashes, and what does not.
func TestClash(t *testing.T) {
	for _, x := range []struct {
		nodes []api.Node
		want  string // the pairs, of which the first is the lesser one
	}{
		{[]api.Node{set(0, word(1), 1), set(1, word(2), 2), print(slot(0), 3), end()}, "0-1"},
		// A slot that nobody asks for clashes with what is live behind where it is set; one that is set anew at once does not clash with what it is made of.
		{[]api.Node{set(1, word(1), 1), print(slot(0), 2), end()}, "0-1"},
		{[]api.Node{set(1, slot(0), 1), print(slot(1), 2), end()}, ""},
		{[]api.Node{set(1, slot(0), 1), print(slot(1), 2), print(slot(0), 3), end()}, "0-1"},
		{[]api.Node{{Kind: api.NodeSwap, Slot: 1, A: slot(0), Next: 1}, print(slot(1), 2), end()}, ""},
		{[]api.Node{{Kind: api.NodeSwap, Slot: 1, A: slot(0), Next: 1}, print(slot(0), 2), end()}, "0-1"},
		{[]api.Node{{Kind: api.NodeLoad, Slot: 1, Next: 1}, print(slot(0), 2), end()}, "0-1"},
		// Neither is defined: both have 0.
		{[]api.Node{print(slot(0), 1), print(slot(1), 2), end()}, ""},
		// Live behind by a way that is not the next one.
		{[]api.Node{branch(slot(2), 1, 2), set(1, word(1), 3), set(0, word(1), 3), branch(slot(2), 4, 5), print(slot(0), 5), end()}, "0-1 0-2 1-2"},
		{[]api.Node{set(0, word(1), 1), branch(slot(2), 0, 2), end()}, "0-2"},
		// Not reached.
		{[]api.Node{print(slot(0), 2), set(1, word(1), 0), end()}, ""},
		{[]api.Node{set(1, word(1), 2), print(slot(0), 2), end()}, ""},
	} {
		u := made(3, x.nodes...)
		var got []string
		for a := range 3 {
			for b := range 3 {
				is := clash(t, u, 0, a, b)
				if is != clash(t, u, 0, b, a) || is && a == b {
					t.Errorf("%v: clash of %d and %d", x.nodes, a, b)
				}
				if is && a < b {
					got = append(got, fmt.Sprintf("%d-%d", a, b))
				}
			}
		}
		if got := strings.Join(got, " "); got != x.want {
			t.Errorf("%v: %s, not %s", x.nodes, got, x.want)
		}
	}
}

// 15.1: weights: once a node, by loops, of four of them at most.
func TestWeight(t *testing.T) {
	deep := func(loops int, s string) string {
		return "shared x; thread a { local r; " + strings.Repeat("while (1) { ", loops) + s + strings.Repeat(" }", loops) + " }"
	}
	for _, x := range []struct {
		s    string
		want int
	}{
		{deep(0, ""), 0},
		{deep(0, "r = 1;"), 1},
		{deep(0, "x = r;"), 1},
		{deep(0, "print r;"), 1},
		{deep(0, "if (r) { }"), 1},
		{deep(0, "r = x;"), 1},
		{deep(0, "r = swap(x, r);"), 1},
		{deep(0, "r = r; x = r; print r;"), 3},
		{deep(0, "print r + r;"), 1},
		{deep(1, "print r;"), 8},
		{deep(2, "print r;"), 64},
		{deep(3, "print r;"), 512},
		{deep(4, "print r;"), 4096},
		{deep(5, "print r;"), 4096},
		{deep(9, "print r; r = 1;"), 8192},
		{"thread a { local r; print r; while (r) { print r; } r = 2; }", 1 + 8 + 8 + 1},
	} {
		if got := weight(t, unit(t, x.s), 0, 0); got != x.want {
			t.Errorf("%s: %d, not %d", x.s, got, x.want)
		}
	}
	// Used on both sides and defined: once; where nobody comes: not at all.
	both := api.Node{Kind: api.NodeSet, Op: api.OpAdd, Slot: 1, A: slot(1), B: slot(1), Next: 2}
	if n := weight(t, made(2, print(word(1), 1), both, end()), 0, 1); n != 1 {
		t.Error(n)
	}
	if n := weight(t, made(2, print(word(1), 2), both, end()), 0, 1); n != 0 {
		t.Error(n)
	}
	if n := weight(t, made(2, print(word(1), 2), print(slot(1), 0), end()), 0, 0); n != 0 {
		t.Error(n)
	}
}

// chain prints all of some slots, behind having set them: they all clash.
func chain(slots int, more ...api.Node) api.Unit {
	var nodes []api.Node
	for n := range slots {
		nodes = append(nodes, set(n, word(int64(n)), len(nodes)+1))
	}
	for n := range slots {
		nodes = append(nodes, print(slot(n), len(nodes)+1))
	}
	for _, n := range more {
		n.Next = len(nodes) + 1
		nodes = append(nodes, n)
	}
	return made(slots, append(nodes, end())...)
}

// 15.2: who has which place, where registers run out, and by which order.
func TestAssign(t *testing.T) {
	for _, x := range []struct {
		u    api.Unit
		want string
	}{
		{made(0, end()), ", 0"},
		{made(2, end()), "r0 r0, 0"},
		{chain(13), "r0 r1 r2 r3 r4 r5 r6 r7 r8 r9 r10 r11 r12, 0"},
		{chain(14), "r0 r1 r2 r3 r4 r5 r6 r7 r8 r9 r10 r11 r12 c0, 1"},
		{chain(16), "r0 r1 r2 r3 r4 r5 r6 r7 r8 r9 r10 r11 r12 c0 c1 c2, 3"},
		// The last ones are the heaviest: they come first.
		{chain(15, print(slot(14), 0), print(slot(13), 0)), "r2 r3 r4 r5 r6 r7 r8 r9 r10 r11 r12 c0 c1 r0 r1, 2"},
		{chain(15, print(slot(14), 0), print(slot(14), 0), print(slot(13), 0)), "r2 r3 r4 r5 r6 r7 r8 r9 r10 r11 r12 c0 c1 r1 r0, 2"},
		// A light one that is given its place late has the register that is free of what clashes with it.
		{chain(14, set(0, word(9), 0), print(slot(0), 0), print(slot(13), 0)), "r0 r2 r3 r4 r5 r6 r7 r8 r9 r10 r11 r12 c0 r1, 1"},
		// Of weight 0; set and not read; read and not set.
		{made(3, set(1, word(1), 1), print(slot(1), 2), end()), "r0 r0 r0, 0"},
		{made(2, set(1, word(1), 1), set(0, word(1), 2), print(slot(1), 3), end()), "r1 r0, 0"},
		{made(2, print(slot(0), 1), print(slot(1), 2), end()), "r0 r0, 0"},
	} {
		l := assign(t, x.u, true)
		if got := placed(l[0]); len(l) != 1 || got != x.want {
			t.Errorf("%v: %s, not %s", x.u.Graphs, got, x.want)
		}
		if !right(t, x.u, l) {
			t.Errorf("%v: not right", l)
		}
	}
	u := unit(t, "shared x; thread a { local r, s, u; s = 1; print u; } thread b { } thread c { local r; r = x; }")
	var got []string
	for _, a := range assign(t, u, false) {
		got = append(got, placed(a))
	}
	if want := []string{"r0 c0 c1, 2", ", 0", "c0 c1, 2"}; !slices.Equal(got, want) {
		t.Errorf("%q, not %q", got, want)
	}
	if l := assign(t, api.Unit{}, true); len(l) != 0 || !right(t, api.Unit{}, l) {
		t.Error(l)
	}
}

// 15.3: which places may be, and which may not.
func TestRight(t *testing.T) {
	u := chain(3) // 0, 1 and 2 clash
	u.Graphs[0].Slots = 4
	u.Graphs = append(u.Graphs, api.Graph{Name: "b", Nodes: []api.Node{end()}})
	alloc := func(cells int, l ...api.Place) []api.Alloc {
		return []api.Alloc{{Places: l, Cells: cells}, {}}
	}
	reg := func(n int) api.Place { return api.Place{N: n} }
	cell := func(n int) api.Place { return api.Place{InCell: true, N: n} }
	for _, x := range []struct {
		l    []api.Alloc
		want bool
	}{
		{alloc(0, reg(0), reg(1), reg(2), reg(0)), true},
		{alloc(0, reg(12), reg(1), reg(2), reg(12)), true},
		{alloc(0, reg(0), reg(1), reg(0), reg(3)), false},
		{alloc(0, reg(5), reg(5), reg(0), reg(3)), false},
		{alloc(1, reg(0), cell(0), reg(1), cell(0)), true},
		{alloc(2, cell(0), cell(1), cell(0), reg(3)), false},
		{alloc(2, cell(0), cell(1), reg(0), cell(1)), true},
		{alloc(api.MaxSlots, cell(api.MaxSlots-1), cell(1), reg(0), reg(0)), true},
	} {
		if got := right(t, u, x.l); got != x.want {
			t.Error(x.l, got)
		}
	}
	for _, l := range [][]api.Alloc{
		nil,
		alloc(0, reg(0), reg(1), reg(2), reg(3))[:1],
		append(alloc(0, reg(0), reg(1), reg(2), reg(3)), api.Alloc{}),
		alloc(0, reg(0), reg(1), reg(2)),
		alloc(0, reg(0), reg(1), reg(2), reg(3), reg(4)),
		alloc(0, reg(0), reg(1), reg(13), reg(3)),
		alloc(0, reg(0), reg(1), reg(2), reg(13)),
		alloc(0, reg(0), reg(-1), reg(2), reg(3)),
		alloc(0, reg(0), reg(math.MaxInt), reg(2), reg(3)),
		alloc(0, reg(0), cell(0), reg(2), reg(3)),
		alloc(2, reg(0), cell(2), reg(2), reg(3)),
		alloc(2, reg(0), cell(-1), reg(2), reg(3)),
		alloc(2, reg(0), reg(2), reg(3), cell(math.MinInt)),
		alloc(-1, reg(0), reg(1), reg(2), reg(3)),
		alloc(math.MinInt, reg(0), reg(1), reg(2), reg(3)),
		alloc(api.MaxSlots+1, reg(0), reg(1), reg(2), reg(3)),
		alloc(math.MaxInt, reg(0), cell(1), reg(2), reg(3)),
		// What may not be is told, though what stands ahead of it clashes.
		alloc(0, reg(0), reg(0), reg(2), reg(13)),
		{{Places: []api.Place{reg(0), reg(0), reg(2), reg(3)}}, {Cells: -1}},
		{{Places: []api.Place{reg(0), reg(1), reg(2), reg(3)}}, {Places: []api.Place{reg(0)}}},
	} {
		if is, why := regs.Right(u, l); is || why != api.ErrAlloc {
			t.Errorf("Right of %v: %v, error %d", l, is, why)
		}
	}
}

// refused holds that all calls have an error, and answer nothing beside it.
func refused(t *testing.T, u api.Unit, thread, a, b int, want api.Errno) {
	t.Helper()
	if is, why := regs.Clash(u, thread, a, b); is || why != want {
		t.Errorf("Clash of %d, %d of %d: %v, error %d", a, b, thread, is, why)
	}
	if is, why := regs.Clash(u, thread, b, a); is || why != want {
		t.Errorf("Clash of %d, %d of %d: %v, error %d", b, a, thread, is, why)
	}
	if n, why := regs.Weight(u, thread, a); n != 0 || why != want {
		t.Errorf("Weight of %d of %d: %v, error %d", a, thread, n, why)
	}
}

// 15.1 to 15.3, P1, P2: units that may not be; threads and slots that are none; which error comes first.
func TestRefused(t *testing.T) {
	const text = "shared x; lock l; thread a { local r; r = 1; print r; } thread b { local r, s; lock l { x = r; } }"
	numbers := []int{math.MinInt, -1, 2, 99, math.MaxInt}
	for _, spoil := range []func(u *api.Unit){
		func(u *api.Unit) { u.Shared[0].Name = "l" },
		func(u *api.Unit) { u.Graphs = append(u.Graphs, api.Graph{Name: "c"}) },
		func(u *api.Unit) { u.Graphs[0].Nodes = nil },
		func(u *api.Unit) { u.Graphs[0].Nodes[0].Slot = 1 },
		func(u *api.Unit) { u.Graphs[0].Nodes[1].A.Slot = -1 },
		func(u *api.Unit) { u.Graphs[0].Nodes[0].Op = api.OpCount },
		func(u *api.Unit) { u.Graphs[0].Nodes[0].Next = 99 },
		func(u *api.Unit) { u.Graphs[1].Nodes[1].Thing = 1 },
		func(u *api.Unit) { u.Graphs[1].Nodes[0].Kind = api.NodeCount },
		func(u *api.Unit) { u.Graphs[1].Nodes[0].Next = 3 },
	} {
		u := unit(t, text)
		spoil(&u)
		for _, thread := range append(numbers, 0, 1) {
			refused(t, u, thread, 0, 0, api.ErrGraph)
			refused(t, u, thread, -1, 0, api.ErrGraph)
			if l, why := regs.Live(u, thread); l != nil || why != api.ErrGraph {
				t.Errorf("Live: %v, error %d", l, why)
			}
		}
		for _, promote := range []bool{false, true} {
			if l, why := regs.Assign(u, promote); l != nil || why != api.ErrGraph {
				t.Errorf("Assign: %v, error %d", l, why)
			}
		}
		for _, l := range [][]api.Alloc{nil, {{Cells: -1}}, {{Places: make([]api.Place, 1)}, {Places: make([]api.Place, 2)}}} {
			if is, why := regs.Right(u, l); is || why != api.ErrGraph {
				t.Errorf("Right: %v, error %d", is, why)
			}
		}
	}
	u := unit(t, text)
	for _, n := range numbers {
		refused(t, u, n, 0, 0, api.ErrRange)
		refused(t, u, 1, n, n, api.ErrRange)
		if l, why := regs.Live(u, n); l != nil || why != api.ErrRange {
			t.Errorf("Live: %v, error %d", l, why)
		}
		if is, why := regs.Clash(u, 1, 1, n); is || why != api.ErrRange {
			t.Errorf("Clash: %v, error %d", is, why)
		}
	}
	refused(t, u, 0, 1, 1, api.ErrRange)
	refused(t, api.Unit{}, 0, 0, 0, api.ErrRange)
}
