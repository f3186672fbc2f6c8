package source_test

import (
	"fmt"
	"math"
	"slices"
	"strings"
	"testing"

	"stile/api"
	"stile/cfg"
	"stile/parse"
	"stile/source"
	"stile/words"
)

const crossed = "shared x, y; lock l; thread a { x = 1; print y; } thread b { y = 1; print x; }"

func unit(t *testing.T, s string) api.Unit {
	t.Helper()
	p, why, f := parse.Parse(s)
	if why != api.OK {
		t.Fatalf("Parse(%.300q): error %d, %v", s, why, f)
	}
	u, why := cfg.Lower(p)
	if why != api.OK {
		t.Fatalf("Lower of %.300q: error %d", s, why)
	}
	return u
}

func ahead(t *testing.T, u api.Unit) *source.Machine {
	t.Helper()
	m, why := source.New(u)
	if m == nil || why != api.OK {
		t.Fatalf("New(%.300s): error %d", fmt.Sprint(u), why)
	}
	return m
}

func machine(t *testing.T, s string) *source.Machine {
	t.Helper()
	return ahead(t, unit(t, s))
}

// steps runs a schedule, which must go.
func steps(t *testing.T, m *source.Machine, l ...int) *source.Machine {
	t.Helper()
	if n, why := m.Run(l); n != len(l) || why != api.OK {
		t.Fatalf("Run(%v): %d, error %d, at %s", l, n, why, m.Key())
	}
	return m
}

func keyIs(t *testing.T, m *source.Machine, want string) {
	t.Helper()
	if got := m.Key(); got != want {
		t.Errorf("%s, not %s", got, want)
	}
}

// refused holds that a Step is refused, and that nothing is changed by it.
func refused(t *testing.T, m *source.Machine, thread int, want api.Errno) {
	t.Helper()
	key := m.Key()
	did, why := m.Step(thread)
	if why != want || did != (api.Acted{}) || m.Can(thread) {
		t.Errorf("Step(%d) at %s: %v, error %d, not %d; Can: %v", thread, key, did, why, want, m.Can(thread))
	}
	if n, why := m.Run([]int{thread, 0, 0}); n != 0 || why != want {
		t.Errorf("Run of %d at %s: %d, error %d, not %d", thread, key, n, why, want)
	}
	keyIs(t, m, key)
}

// Example 1: one thread, then the other; no schedule prints 0 twice.
func TestCrossed(t *testing.T) {
	m := machine(t, crossed)
	keyIs(t, m, "0,0,|0,0,|0,0,|-1,|")
	if n, why := m.Run(make([]int, 9)); n != 3 || why != api.ErrEnded {
		t.Error(n, why)
	}
	keyIs(t, m, "3,0,|0,0,|1,0,|-1,|0:0,")
	refused(t, m, 0, api.ErrEnded)
	steps(t, m, 1, 1)
	keyIs(t, m, "3,0,|2,1,|1,1,|-1,|0:0,")
	if m.Ended() {
		t.Error("thread 1 has not printed")
	}
	steps(t, m, 1)
	keyIs(t, m, "3,0,|3,1,|1,1,|-1,|0:0,1:1,")
	if l := m.Prints(); !m.Ended() || !slices.Equal(l, []api.Print{{}, {Thread: 1, Word: 1}}) {
		t.Error(m.Ended(), l)
	}
	for bits := range 1 << 6 {
		m := machine(t, crossed)
		for i := range 6 {
			m.Step(bits >> i & 1)
		}
		m.Run([]int{0, 0, 0})
		m.Run([]int{1, 1, 1})
		if l := m.Prints(); !m.Ended() || len(l) != 2 || l[0].Word+l[1].Word == 0 {
			t.Error(bits, m.Key())
		}
	}
}

// Example 2: who waits, for another one and for itself.
func TestWaiting(t *testing.T) {
	m := machine(t, "shared x; lock l; thread a { lock l { x = 1; } } thread b { lock l { x = 2; } }")
	if l := m.Blocked(); len(l) != 0 {
		t.Error(l)
	}
	steps(t, m, 1)
	for range 2 {
		refused(t, m, 0, api.ErrBlocked)
		if l := m.Blocked(); !slices.Equal(l, []int{0}) || m.Holder(0) != 1 {
			t.Error(l, m.Holder(0))
		}
		steps(t, m, 1)
	}
	if len(m.Blocked()) != 0 || m.Holder(0) != -1 || !m.Can(0) {
		t.Error("the lock was given back:", m.Key())
	}
	steps(t, m, 0, 0, 0)
	keyIs(t, m, "3,|3,|1,|-1,|")

	m = steps(t, machine(t, "lock l, k; thread a { lock l { lock k { lock l { } } } } thread b { skip; } thread c { lock k { } }"), 0, 0)
	refused(t, m, 0, api.ErrBlocked)
	refused(t, m, 1, api.ErrEnded)
	refused(t, m, 2, api.ErrBlocked)
	if l := m.Blocked(); !slices.Equal(l, []int{0, 2}) || m.Ended() || m.Holder(0) != 0 || m.Holder(1) != 0 {
		t.Error(l, m.Key())
	}
}

// 7.1: a unit that is not right; what a machine is ahead of the first action.
func TestNew(t *testing.T) {
	wrong := map[string]func(u *api.Unit){
		"a kind":       func(u *api.Unit) { u.Graphs[0].Nodes[0].Kind = api.NodeCount },
		"a slot":       func(u *api.Unit) { u.Graphs[1].Nodes[1].Slot = 1 },
		"no end":       func(u *api.Unit) { u.Graphs[0].Nodes[2].Next = 4 },
		"a name twice": func(u *api.Unit) { u.Locks[0].Name = "x" },
		"a lock's":     func(u *api.Unit) { u.Locks[0].Word = 1 },
		"no nodes":     func(u *api.Unit) { u.Graphs[0].Nodes = nil },
		"locks":        func(u *api.Unit) { u.Graphs[0].Nodes[0] = api.Node{Kind: api.NodeLock, Next: 1} },
		"threads":      func(u *api.Unit) { u.Graphs = slices.Repeat(u.Graphs, 5) },
	}
	for what, spoil := range wrong {
		u := unit(t, crossed)
		spoil(&u)
		if m, why := source.New(u); m != nil || why != api.ErrGraph {
			t.Errorf("%s: %v, error %d", what, m, why)
		}
	}
	u := unit(t, "shared x, y, z = 7; lock l, k; thread a { local r; r = x; } thread b { }")
	u.Shared[0].Word = math.MinInt64
	m := ahead(t, u)
	keyIs(t, m, "0,0,0,|0,|-9223372036854775808,0,7,|-1,-1,|")
	m = ahead(t, api.Unit{})
	keyIs(t, m, "||")
	if !m.Ended() || len(m.Blocked())+len(m.Memory())+len(m.Prints()) != 0 || m.Can(0) {
		t.Error("a unit of nothing")
	}
	refused(t, m, 0, api.ErrRange)
}

// deed is a thread's next action, and what it must tell and leave.
func deed(t *testing.T, u api.Unit, slots []int64, want api.Acted, key string) {
	t.Helper()
	// The slots get their words by actions ahead of the one in question.
	g := &u.Graphs[0]
	last := g.Nodes[0]
	g.Nodes = nil
	for i, w := range slots {
		g.Nodes = append(g.Nodes, api.Node{Kind: api.NodeSet, Slot: i, A: api.Value{Word: w}, Next: i + 1})
	}
	last.Next = len(slots) + 1
	if last.Kind == api.NodeBranch {
		last.Else = len(slots) + 2
	}
	g.Nodes = append(g.Nodes, last, api.Node{Kind: api.NodeEnd}, api.Node{Kind: api.NodeEnd})
	m := steps(t, ahead(t, u), make([]int, len(slots))...)
	want.Node, want.Kind = len(slots), last.Kind
	did, why := m.Step(0)
	if why != api.OK || did != want {
		t.Errorf("%v: %v, error %d, not %v", last, did, why, want)
	}
	keyIs(t, m, key)
}

// 7.2: what each kind of action does, and tells.
func TestActions(t *testing.T) {
	slot := func(n int) api.Value { return api.Value{IsSlot: true, Slot: n} }
	word := func(w int64) api.Value { return api.Value{Word: w} }
	of := func(n api.Node) api.Unit {
		return api.Unit{
			Shared: []api.Decl{{Name: "x", Word: 8}, {Name: "y", Word: -9}},
			Graphs: []api.Graph{{Name: "a", Slots: 2, Nodes: []api.Node{n}}},
		}
	}
	l := []int64{3, -4}
	deed(t, of(api.Node{Kind: api.NodeSet, Slot: 1, A: word(5)}), l, api.Acted{Word: 5}, "3,3,5,|8,-9,||")
	deed(t, of(api.Node{Kind: api.NodeSet, Slot: 0, A: slot(1)}), l, api.Acted{Word: -4}, "3,-4,-4,|8,-9,||")
	deed(t, of(api.Node{Kind: api.NodeSet, Slot: 1, A: slot(1)}), l, api.Acted{Word: -4}, "3,3,-4,|8,-9,||")
	deed(t, of(api.Node{Kind: api.NodeSet, Slot: 0, Op: api.OpMinus, A: slot(0)}), l, api.Acted{Word: -3}, "3,-3,-4,|8,-9,||")
	deed(t, of(api.Node{Kind: api.NodeSet, Slot: 0, Op: api.OpSub, A: slot(0), B: slot(1)}), l, api.Acted{Word: 7}, "3,7,-4,|8,-9,||")
	deed(t, of(api.Node{Kind: api.NodeSet, Slot: 1, Op: api.OpSub, A: word(1), B: slot(0)}), l, api.Acted{Word: -2}, "3,3,-2,|8,-9,||")
	deed(t, of(api.Node{Kind: api.NodeLoad, Slot: 0, Thing: 1}), l, api.Acted{Thing: 1, Word: -9}, "3,-9,-4,|8,-9,||")
	deed(t, of(api.Node{Kind: api.NodeStore, Thing: 1, A: slot(1)}), l, api.Acted{Thing: 1, Word: -4}, "3,3,-4,|8,-4,||")
	deed(t, of(api.Node{Kind: api.NodeStore, Thing: 0, A: word(-1)}), l, api.Acted{Word: -1}, "3,3,-4,|-1,-9,||")
	deed(t, of(api.Node{Kind: api.NodeSwap, Slot: 1, Thing: 0, A: slot(0)}), l, api.Acted{Word: 8, Put: 3}, "3,3,8,|3,-9,||")
	deed(t, of(api.Node{Kind: api.NodeSwap, Slot: 1, Thing: 1, A: slot(1)}), l, api.Acted{Thing: 1, Word: -9, Put: -4}, "3,3,-9,|8,-4,||")
	deed(t, of(api.Node{Kind: api.NodePrint, A: slot(1)}), l, api.Acted{Word: -4}, "3,3,-4,|8,-9,||0:-4,")
	deed(t, of(api.Node{Kind: api.NodeBranch, A: slot(1)}), l, api.Acted{Word: -4}, "3,3,-4,|8,-9,||")
	deed(t, of(api.Node{Kind: api.NodeBranch, A: slot(1)}), []int64{3, 0}, api.Acted{}, "4,3,0,|8,-9,||")
	deed(t, of(api.Node{Kind: api.NodeBranch, A: word(0)}), l, api.Acted{}, "4,3,-4,|8,-9,||")
	deed(t, of(api.Node{Kind: api.NodeBranch, A: word(math.MinInt64)}), l, api.Acted{Word: math.MinInt64}, "3,3,-4,|8,-9,||")
	ends := []int64{0, 1, -1, 3, 64, math.MaxInt64, math.MinInt64}
	for op := api.OpNone; op < api.OpCount; op++ {
		for _, a := range ends {
			for _, b := range ends {
				n := api.Node{Kind: api.NodeSet, Slot: 1, Op: op, A: slot(0)}
				want := a
				switch {
				case words.Two(op):
					n.B = slot(1)
					want, _ = words.Do(op, a, b)
				case op != api.OpNone:
					want, _ = words.One(op, a)
				}
				deed(t, of(n), []int64{a, b}, api.Acted{Word: want}, fmt.Sprintf("3,%d,%d,|8,-9,||", a, want))
			}
		}
	}
}

// 7.2: taking a lock and giving it back, and what a thread of another number tells.
func TestLockActions(t *testing.T) {
	m := machine(t, "shared x = 4; lock k, l; thread a { } thread b { lock l { lock k { print x; } } }")
	keys := []string{"0,|1,0,|4,|-1,1,|", "0,|2,0,|4,|1,1,|", "0,|3,4,|4,|1,1,|", "0,|4,4,|4,|1,1,|1:4,", "0,|5,4,|4,|-1,1,|1:4,", "0,|6,4,|4,|-1,-1,|1:4,"}
	for i, want := range []api.Acted{
		{Thread: 1, Node: 0, Kind: api.NodeLock, Thing: 1},
		{Thread: 1, Node: 1, Kind: api.NodeLock},
		{Thread: 1, Node: 2, Kind: api.NodeLoad, Word: 4},
		{Thread: 1, Node: 3, Kind: api.NodePrint, Word: 4},
		{Thread: 1, Node: 4, Kind: api.NodeUnlock},
		{Thread: 1, Node: 5, Kind: api.NodeUnlock, Thing: 1},
	} {
		if got, why := m.Step(1); got != want || why != api.OK {
			t.Errorf("%v, error %d, not %v", got, why, want)
		}
		keyIs(t, m, keys[i])
	}
}

// 7.2: which error Step, Run and Can have.
func TestRefused(t *testing.T) {
	m := machine(t, crossed)
	for _, thread := range []int{-1, 2, 8, math.MinInt, math.MaxInt} {
		refused(t, m, thread, api.ErrRange)
		if n, why := m.Run([]int{0, 1, thread, 1}); n != 2 || why != api.ErrRange {
			t.Error(thread, n, why)
		}
		m = machine(t, crossed)
	}
	if n, why := m.Run(nil); n != 0 || why != api.OK {
		t.Error(n, why)
	}
	if n, why := m.Run([]int{}); n != 0 || why != api.OK {
		t.Error(n, why)
	}
	keyIs(t, m, "0,0,|0,0,|0,0,|-1,|")
	if n, why := m.Run([]int{1, 0, 1, 0, 1, 1, 0}); n != 5 || why != api.ErrEnded {
		t.Error(n, why)
	}
	keyIs(t, m, "2,1,|3,1,|1,1,|-1,|1:1,")
	m = machine(t, "lock l; thread a { lock l { } } thread b { lock l { } }")
	if n, why := m.Run([]int{1, 0, 1, 1}); n != 1 || why != api.ErrBlocked {
		t.Error(n, why)
	}
	keyIs(t, m, "0,|1,||1,|")
}

var racy = []api.Class{{Kind: api.ClassRacy}, {Kind: api.ClassRacy}}

// advanced holds an Advance against what it must tell and leave.
func advanced(t *testing.T, m *source.Machine, thread int, classes []api.Class, most, want int, whyWant api.Errno) {
	t.Helper()
	before := m.Key()
	byStep := m.Copy()
	n, why := m.Advance(thread, classes, most)
	if n != want || why != whyWant {
		t.Errorf("Advance(%d, %v, %d) at %s: %d, error %d, not %d, %d", thread, classes, most, before, n, why, want, whyWant)
	}
	for range n {
		byStep.Step(thread)
	}
	keyIs(t, m, byStep.Key())
}

// Example 3, and 7.3: up to and with the next visible action, or to the end.
func TestAdvance(t *testing.T) {
	m := machine(t, crossed)
	for range 3 {
		advanced(t, m, 0, racy, 10, 1, api.OK)
	}
	keyIs(t, m, "3,0,|0,0,|1,0,|-1,|0:0,")
	advanced(t, m, 0, racy, 10, 0, api.ErrEnded)
	advanced(t, m, 1, make([]api.Class, 2), 10, 3, api.OK)
	keyIs(t, m, "3,0,|3,1,|1,1,|-1,|0:0,1:1,")

	m = machine(t, "shared x, y; lock l; thread a { local r; r = 1; r = 2; y = r; lock l { x = 3; } r = swap(y, 5); r = y; }")
	one := []api.Class{{Kind: api.ClassGuarded}, {Kind: api.ClassRacy}}
	advanced(t, m, 0, one, 10, 3, api.OK)
	advanced(t, m, 0, one, 10, 1, api.OK)
	advanced(t, m, 0, one, 10, 2, api.OK)
	advanced(t, m, 0, one, 10, 1, api.OK)
	advanced(t, m, 0, one, 10, 1, api.OK)
	advanced(t, m, 0, one, 10, 1, api.OK) // the load's slot is copied to r: up to the end
	advanced(t, m, 0, one, 10, 0, api.ErrEnded)

	m = machine(t, "thread a { local r; r = 1; r = 2; if (r) { r = 3; } }")
	advanced(t, m, 0, nil, 4, 4, api.OK)
	advanced(t, m, 0, nil, 4, 0, api.ErrEnded)
}

// 7.3: whichever comes first: too many, waiting, the end; and then nothing is done.
func TestAdvanceStops(t *testing.T) {
	text := "shared x; lock l; thread a { local r; r = 1; x = r; lock l { } } thread b { lock l { } } thread c { x = 5; x = 6; }"
	classes := []api.Class{{Kind: api.ClassPrivate}}
	m := machine(t, text)
	advanced(t, m, 0, classes, 0, 0, api.ErrMany)
	advanced(t, m, 0, classes, 2, 0, api.ErrMany)
	advanced(t, m.Copy(), 0, classes, 3, 3, api.OK)
	advanced(t, m, 1, classes, 1, 1, api.OK)
	advanced(t, m, 0, classes, 0, 0, api.ErrMany)
	advanced(t, m, 0, classes, 1, 0, api.ErrMany)
	for _, most := range []int{2, 3, api.MaxSteps} {
		advanced(t, m, 0, classes, most, 0, api.ErrBlocked)
	}
	steps(t, m, 0, 0)
	for _, most := range []int{0, 1, 9} {
		advanced(t, m, 0, classes, most, 0, api.ErrBlocked)
	}
	keyIs(t, m, "2,1,|1,|0,|1,|1,|")
	advanced(t, m, 2, classes, 1, 0, api.ErrMany)
	advanced(t, m, 2, classes, 2, 2, api.OK)
	advanced(t, m, 2, classes, 0, 0, api.ErrEnded)

	m = machine(t, "thread a { local r; while (1) { r = r + 1; } }")
	advanced(t, m, 0, nil, api.MaxSteps, 0, api.ErrMany)
	keyIs(t, m, "0,0,0,|||")
	// Each round has four actions: the comparison, the branch, the sum, the copy.
	rounds := (api.MaxSteps - 2) / 4
	m = machine(t, fmt.Sprintf("thread a { local r; while (r < %d) { r = r + 1; } }", rounds))
	if n, why := m.Advance(0, nil, api.MaxSteps); why != api.OK || n != 4*rounds+2 || !m.Ended() {
		t.Error(n, why)
	}
}

// 7.3: numbers out of their range, ahead of all else.
func TestAdvanceRange(t *testing.T) {
	m := machine(t, "shared x, y; lock l; thread a { x = 1; } thread b { } thread c { lock l { lock l { } } }")
	steps(t, m, 2)
	key := m.Key()
	for _, c := range []struct {
		thread  int
		classes []api.Class
		most    int
		want    api.Errno
	}{
		{-1, racy, 9, api.ErrRange}, {3, racy, 9, api.ErrRange}, {math.MaxInt, racy, 9, api.ErrRange}, {math.MinInt, racy, 9, api.ErrRange},
		{0, racy, -1, api.ErrRange}, {0, racy, api.MaxSteps + 1, api.ErrRange}, {0, racy, math.MinInt, api.ErrRange}, {0, racy, math.MaxInt, api.ErrRange},
		{0, nil, 9, api.ErrRange}, {0, racy[:1], 9, api.ErrRange}, {0, make([]api.Class, 3), 9, api.ErrRange},
		{1, nil, 9, api.ErrRange}, {1, racy, -1, api.ErrRange}, {1, racy, 0, api.ErrEnded}, {1, racy, api.MaxSteps, api.ErrEnded},
		{2, racy[:1], 9, api.ErrRange}, {2, racy, api.MaxSteps + 1, api.ErrRange}, {2, racy, 0, api.ErrBlocked},
	} {
		if n, why := m.Advance(c.thread, c.classes, c.most); n != 0 || why != c.want {
			t.Errorf("Advance(%d, %v, %d): %d, error %d, not %d", c.thread, c.classes, c.most, n, why, c.want)
		}
		keyIs(t, m, key)
	}
	advanced(t, m, 0, racy, api.MaxSteps, 1, api.OK)
}

// 7.4: asked for what is not there; and for what is.
func TestAsked(t *testing.T) {
	m := steps(t, machine(t, "shared x = 3; lock l, k; thread a { local r; r = x; } thread b { lock k { print 7; } }"), 0, 1, 1)
	for _, n := range []int{-1, 2, math.MinInt, math.MaxInt} {
		if m.At(n) != -1 || len(m.Slots(n)) != 0 || m.Holder(n) != -1 || m.Can(n) {
			t.Error(n, m.At(n), m.Slots(n), m.Holder(n))
		}
	}
	if m.At(0) != 1 || m.At(1) != 2 || !slices.Equal(m.Slots(0), []int64{0, 3}) || len(m.Slots(1)) != 0 {
		t.Error(m.At(0), m.At(1), m.Slots(0), m.Slots(1))
	}
	if m.Holder(0) != -1 || m.Holder(1) != 1 || !slices.Equal(m.Memory(), []int64{3}) || !slices.Equal(m.Prints(), []api.Print{{Thread: 1, Word: 7}}) {
		t.Error(m.Key())
	}
}

// 7.4: Visible goes by the kind, and of a variable by its class alone.
func TestVisible(t *testing.T) {
	for k := range 256 {
		kind := api.NodeKind(k)
		always := kind == api.NodeLock || kind == api.NodeUnlock || kind == api.NodePrint
		touches := kind == api.NodeLoad || kind == api.NodeStore || kind == api.NodeSwap
		for c := range 256 {
			classes := []api.Class{{Kind: api.ClassRacy}, {Kind: api.ClassKind(c), Thread: 3, Lock: -2}, {Kind: api.ClassRacy}}
			want := always || touches && api.ClassKind(c) == api.ClassRacy
			if source.Visible(classes, api.Node{Kind: kind, Thing: 1}) != want {
				t.Fatalf("kind %d, class %d: not %v", k, c, want)
			}
		}
		for _, thing := range []int{-1, 2, math.MinInt, math.MaxInt} {
			if source.Visible(racy, api.Node{Kind: kind, Thing: thing}) != always {
				t.Error(kind, thing)
			}
		}
		if source.Visible(nil, api.Node{Kind: kind}) != always {
			t.Error(kind, "without classes")
		}
	}
}

// 7.5: a nil machine.
func TestNil(t *testing.T) {
	var m *source.Machine
	if m.Copy() != nil || m.At(0) != -1 || m.Holder(0) != -1 || m.Ended() || m.Can(0) || m.Key() != "" {
		t.Error("a nil machine has something")
	}
	if len(m.Blocked())+len(m.Memory())+len(m.Slots(0))+len(m.Prints()) != 0 {
		t.Error("a nil machine has lists")
	}
	for _, n := range []int{-1, 0} {
		if did, why := m.Step(n); did != (api.Acted{}) || why != api.ErrNil {
			t.Error(did, why)
		}
		if n, why := m.Advance(n, nil, n); n != 0 || why != api.ErrNil {
			t.Error(n, why)
		}
	}
	for _, l := range [][]int{nil, {}, {0}, {-1}} {
		if n, why := m.Run(l); n != 0 || why != api.ErrNil {
			t.Error(n, why)
		}
	}
}

// Long runs, and the largest units.
func TestLarge(t *testing.T) {
	m := machine(t, "thread a { while (1) { print 5; } }")
	l := make([]int, api.MaxSteps)
	steps(t, m, l...)
	if p := m.Prints(); len(p) != api.MaxSteps/2 || p[0] != (api.Print{Word: 5}) || p[len(p)-1] != (api.Print{Word: 5}) {
		t.Error(len(p))
	}
	if want := "0,|||" + strings.Repeat("0:5,", api.MaxSteps/2); m.Key() != want {
		t.Error("not its text")
	}
	var u api.Unit
	for i := range api.MaxThreads {
		g := api.Graph{Name: string(rune('a' + i)), Slots: api.MaxSlots}
		for n := range api.MaxNodes - 1 {
			g.Nodes = append(g.Nodes, api.Node{Kind: api.NodeSet, Slot: api.MaxSlots - 1 - n, A: api.Value{Word: int64(n + i)}, Next: n + 1})
		}
		g.Nodes = append(g.Nodes, api.Node{Kind: api.NodeEnd})
		u.Graphs = append(u.Graphs, g)
	}
	m = ahead(t, u)
	for thread := range api.MaxThreads {
		if n, why := m.Advance(thread, nil, api.MaxNodes-2); n != 0 || why != api.ErrMany {
			t.Error(n, why)
		}
		if n, why := m.Advance(thread, nil, api.MaxNodes-1); n != api.MaxNodes-1 || why != api.OK || m.Ended() != (thread == api.MaxThreads-1) {
			t.Error(n, why)
		}
		if l := m.Slots(thread); len(l) != api.MaxSlots || l[api.MaxSlots-1] != int64(thread) || l[api.MaxSlots-api.MaxNodes+1] != int64(api.MaxNodes-2+thread) || l[0] != 0 {
			t.Error(thread, len(l))
		}
	}
}
