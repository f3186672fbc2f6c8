package sharing_test

import (
	"fmt"
	"math"
	"slices"
	"strings"
	"testing"

	"stile/api"
	"stile/cfg"
	"stile/parse"
	"stile/sharing"
)

const crossed = "shared x, y; thread a { x = 1; print y; } thread b { y = 1; print x; }"

func unit(t *testing.T, s string) api.Unit {
	t.Helper()
	p, why, f := parse.Parse(s)
	if why != api.OK {
		t.Fatalf("Parse(%.300q): error %d, %v", s, why, f)
	}
	u, why := cfg.Lower(p)
	if why != api.OK {
		t.Fatalf("Lower of %.300q: error %d", s, why)
	}
	return u
}

// touches writes of each variable its readers, a bar, its writers.
func touches(t *testing.T, u api.Unit) string {
	t.Helper()
	l, why := sharing.Touches(u)
	if why != api.OK || len(l) != len(u.Shared) {
		t.Errorf("Touches: %v, error %d", l, why)
	}
	s := ""
	for _, x := range l {
		s += fmt.Sprint(x.Readers, "|", x.Writers, " ")
	}
	return strings.TrimSpace(s)
}

func owners(t *testing.T, u api.Unit) string {
	t.Helper()
	l, why := sharing.Owners(u)
	if why != api.OK || len(l) != len(u.Shared) {
		t.Errorf("Owners: %v, error %d", l, why)
	}
	return fmt.Sprint(l)
}

func races(t *testing.T, u api.Unit) []api.Pair {
	t.Helper()
	l, why := sharing.Races(u)
	if why != api.OK {
		t.Errorf("Races: error %d", why)
	}
	return l
}

// apart holds that it is the same whichever of two threads is named first.
func apart(t *testing.T, u api.Unit, a, b int) bool {
	t.Helper()
	is, why := sharing.Apart(u, a, b)
	turned, no := sharing.Apart(u, b, a)
	if why != api.OK || no != api.OK || is != turned {
		t.Errorf("Apart of %d, %d: %v, error %d; turned %v, error %d", a, b, is, why, turned, no)
	}
	return is
}

// 9.1 to 9.4: the chapter's examples.
func TestExamples(t *testing.T) {
	u := unit(t, crossed)
	if s := touches(t, u); s != "[1]|[0] [0]|[1]" {
		t.Error(s)
	}
	if s := owners(t, u); s != "[-2 -2]" {
		t.Error(s)
	}
	if s := fmt.Sprint(races(t, u)); s != "[{{0 0} {1 1}} {{0 1} {1 0}}]" {
		t.Error(s)
	}
	if apart(t, u, 0, 1) {
		t.Error("apart")
	}
	const locked = "shared x; lock l; thread a { lock l { x = 1; } } "
	if l := races(t, unit(t, locked+"thread b { lock l { x = 2; } }")); len(l) != 0 {
		t.Error(l)
	}
	if s := fmt.Sprint(races(t, unit(t, locked+"thread b { x = 2; }"))); s != "[{{0 1} {1 0}}]" {
		t.Error(s)
	}
	u = unit(t, "shared x, y; thread a { x = 1; } thread b { y = 1; }")
	if s := owners(t, u); s != "[0 1]" || !apart(t, u, 0, 1) {
		t.Error(s, "or not apart")
	}
}

// 9.1, 9.2: who reads, who writes, who alone does either.
func TestTouches(t *testing.T) {
	for s, want := range map[string]string{
		"":             "; []",
		"thread a { }": "; []",
		"shared x, y;": "[]|[] []|[]; [-1 -1]",
		"shared x; thread a { } thread b { local x1; x1 = 1; print x1; }":                                               "[]|[]; [-1]",
		"shared x, y, z; thread a { local r; x = 1; r = y; r = swap(z, r); }":                                           "[]|[0] [0]|[] [0]|[0]; [0 0 0]",
		"shared x, y; thread a { x = 1; print x; x = x + y; }":                                                          "[0]|[0] [0]|[]; [0 0]",
		"shared x, y; thread a { x = swap(y, x); }":                                                                     "[0]|[0] [0]|[0]; [0 0]",
		"shared x; thread a { skip; } thread b { skip; } thread c { print x; print x; x = 1; }":                         "[2]|[2]; [2]",
		"shared x; thread a { print x; } thread b { print x; } thread c { x = 1; }":                                     "[0 1]|[2]; [-2]",
		"shared x; thread c { x = 1; } thread b { x = 2; } thread a { x = 3; }":                                         "[]|[0 1 2]; [-2]",
		"shared x, y; thread a { while (x) { if (0) { y = 1; } else { } } } thread b { }":                               "[0]|[] []|[0]; [0 0]",
		"shared x, y; lock l; thread a { lock l { x = 1; } } thread b { lock l { y = 1; } }":                            "[]|[0] []|[1]; [0 1]",
		"shared x, y, z; thread a { if (x) { } } thread b { y = z; } thread c { z = y + x; }":                           "[0 2]|[] [2]|[1] [1]|[2]; [-2 -2 -2]",
		"shared x; thread a{} thread b{} thread c{} thread d{} thread e{} thread f{} thread g{x=x;x=1;}":                "[6]|[6]; [6]",
		"shared x; thread a{x=1;} thread b{} thread c{} thread d{} thread e{} thread f{} thread g{} thread h{print x;}": "[7]|[0]; [-2]",
	} {
		u := unit(t, s)
		if got := touches(t, u) + "; " + owners(t, u); got != want {
			t.Errorf("%q: %s, not %s", s, got, want)
		}
	}
}

// 9.3: which pairs, in which order.
func TestRaces(t *testing.T) {
	for s, want := range map[string]string{
		"": "[]",
		"shared x; thread a { x = 1; x = 2; print x; }":                                    "[]", // of one thread
		"shared x; thread a { print x; } thread b { print x; }":                            "[]", // none writes
		"shared x, y; thread a { x = 1; } thread b { y = 1; }":                             "[]",
		"shared x; thread a { x = 1; } thread b { x = 1; }":                                "[{{0 0} {1 0}}]",
		"shared x; thread a { print x; } thread b { x = 1; }":                              "[{{0 0} {1 0}}]",
		"shared x; thread a { local r; r = swap(x, r); } thread b { print x; }":            "[{{0 0} {1 0}}]",
		"shared x; thread a { print x; } thread b { local r; r = swap(x, 0); }":            "[{{0 0} {1 0}}]",
		"shared x; thread a { local r; r = swap(x, 1); } thread b { x = swap(x, 1); }":     "[{{0 0} {1 0}} {{0 0} {1 1}}]",
		"shared x, y; thread a { x = 1; y = 1; x = 2; } thread b { y = 3; x = 3; y = 4;}":  "[{{0 0} {1 1}} {{0 1} {1 0}} {{0 1} {1 2}} {{0 2} {1 1}}]",
		"shared x; thread a { print x; } thread b { x = 1; } thread c { x = 1; print x; }": "[{{0 0} {1 0}} {{0 0} {2 0}} {{1 0} {2 0}} {{1 0} {2 1}}]",

		"shared x; lock l, m; thread a { lock l { x = 1; } } thread b { lock m { x = 1; } }":                                              "[{{0 1} {1 1}}]",
		"shared x; lock l, m; thread a { lock l { lock m { x = 1; } } } thread b { lock m { x = 1; } }":                                   "[]",
		"shared x; lock l, m; thread a { lock l { lock m { } x = 1; } } thread b { lock m { x = 1; } }":                                   "[{{0 3} {1 1}}]",
		"shared x; lock l, m; thread a { lock l { lock m { x = 1; } } } thread b { lock m { lock l { print x; } } }":                      "[]",
		"shared x; lock l; thread a { lock l { lock l { x = 1; } } } thread b { lock l { x = 1; } }":                                      "[]",
		"shared x; lock l; thread a { lock l { x = 1; } x = 2; } thread b { x = 3; lock l { x = 4; } }":                                   "[{{0 1} {1 0}} {{0 3} {1 0}} {{0 3} {1 2}}]",
		"shared x; lock l; thread a { while (1) { lock l { } x = 1; } } thread b { lock l { while (1) { print x; } } }":                   "[{{0 3} {1 2}}]",
		"shared x; lock l, m, k; thread a{lock l{lock m{x=1;}}} thread b{lock l{lock k{x=1;}}} thread c{lock m{lock k{x=1;}}}":            "[]",
		"shared x; lock l, m, k; thread a{lock l{lock m{x=1;}}} thread b{lock l{lock k{x=1;}}} thread c{lock k{x=1;}}":                    "[{{0 2} {2 1}}]",
		"shared x; lock l; thread a { lock l { if (x) { x = 1; } } } thread b { lock l { x = 2; } } thread c { print x; print x; }":       "[{{0 3} {2 0}} {{0 3} {2 2}} {{1 1} {2 0}} {{1 1} {2 2}}]",
		"lock a0,a1,a2,a3,a4,a5,a6,a7,a8,a9,b0,b1,b2,b3,b4,b5; shared x; thread a { lock b5 { x = 1; } } thread b { lock b5 { x = 1; } }": "[]",
	} {
		if got := fmt.Sprint(races(t, unit(t, s))); got != want {
			t.Errorf("%q: %s, not %s", s, got, want)
		}
	}
}

// 9.4: who is apart from whom.
func TestApart(t *testing.T) {
	for s, want := range map[string]bool{
		"thread a { } thread b { }":                                                                true,
		"shared x; thread a { print x; } thread b { local r; r = x; }":                             true,
		"shared x; thread a { local r; r = x; } thread b { local r; r = x; }":                      true,
		"shared x; thread a { local r; r = x; } thread b { x = 1; }":                               false,
		"shared x; thread a { x = 1; } thread b { x = 1; }":                                        false,
		"shared x; thread a { x = x; } thread b { local r; r = swap(x, 1); }":                      false,
		"shared x; thread a { local r; r = swap(x, 1); } thread b { local r; r = x; }":             false,
		"shared x, y; thread a { local r; r = swap(x, 1); } thread b { local r; r = swap(y, 1); }": true,
		"thread a { print 1; } thread b { print 1; }":                                              false,
		"thread a { print 1; } thread b { local r; r = 1; }":                                       true,
		"lock l; thread a { lock l { } } thread b { lock l { } }":                                  false,
		"lock l, m; thread a { lock l { } } thread b { lock m { } }":                               true,
		"lock l, m; thread a { lock l { lock m { } } } thread b { lock m { } }":                    false,
		"shared x; lock l; thread a { lock l { x = 1; } } thread b { lock l { x = 1; } }":          false,
		"shared x; lock l; thread a { lock l { x = 1; } } thread b { print 2; }":                   true,
		// A thing's number is another one's too.
		"shared x; lock l; thread a { lock l { } } thread b { x = 1; }":                    true,
		"shared x; lock l; thread a { lock l { } } thread b { print 1; }":                  true,
		"shared x; lock l; thread a { x = 1; } thread b { print 1; }":                      true,
		"shared x; thread a { print 1; } thread b { x = 1; } thread c { x = 2; print 1; }": true,
	} {
		u := unit(t, s)
		if got := apart(t, u, 0, 1); got != want {
			t.Errorf("%q: %v, not %v", s, got, want)
		}
		for i := range u.Graphs {
			if apart(t, u, i, i) {
				t.Errorf("%q: %d is apart from itself", s, i)
			}
		}
	}
	u := unit(t, "shared x; thread a { print 1; } thread b { x = 1; } thread c { x = 2; print 1; }")
	if apart(t, u, 0, 2) || apart(t, u, 1, 2) {
		t.Error("apart")
	}
}

// unreached is a unit of which both threads touch x, take l and print at nodes to which nobody comes.
func unreached() api.Unit {
	g := api.Graph{Name: "a", Slots: 1, Nodes: []api.Node{
		{Kind: api.NodeSet, Next: 1},
		{Kind: api.NodeEnd},
		{Kind: api.NodeStore, Next: 3},
		{Kind: api.NodeSwap, Next: 4},
		{Kind: api.NodeLock, Next: 5},
		{Kind: api.NodePrint, Next: 6},
		{Kind: api.NodeLoad, Next: 0},
	}}
	h := g
	h.Name = "b"
	h.Nodes = slices.Clone(g.Nodes)
	return api.Unit{Shared: []api.Decl{{Name: "x"}}, Locks: []api.Decl{{Name: "l"}}, Graphs: []api.Graph{g, h}}
}

// 9.1 to 9.4: only nodes that are reached count.
func TestUnreached(t *testing.T) {
	u := unreached()
	if s := touches(t, u) + owners(t, u) + fmt.Sprint(races(t, u)); s != "[]|[][-1][]" || !apart(t, u, 0, 1) {
		t.Error(s, "or not apart")
	}
	u.Graphs[1].Nodes[0].Next = 6
	if s := touches(t, u) + owners(t, u) + fmt.Sprint(races(t, u)); s != "[1]|[][1][]" || !apart(t, u, 0, 1) {
		t.Error(s, "or not apart")
	}
	u.Graphs[0].Nodes[0] = api.Node{Kind: api.NodeBranch, Next: 1, Else: 3}
	u.Graphs[0].Nodes[3].Next = 1
	if s := touches(t, u) + owners(t, u) + fmt.Sprint(races(t, u)); s != "[0 1]|[0][-2][{{0 3} {1 6}}]" || apart(t, u, 0, 1) {
		t.Error(s, "or apart")
	}
}

// stored is a thread's text of so many stores to x, and the rest.
func stored(name string, n int, rest string) string {
	return "thread " + name + " { " + strings.Repeat("x=1;", n) + rest + " } "
}

// 9.3: as many races as may be, and one more.
func TestManyRaces(t *testing.T) {
	for s, want := range map[string]int{
		"shared x; " + stored("a", 256, "") + stored("b", 256, ""):                                                                       api.MaxStates,
		"shared x; " + stored("a", 16, "") + stored("b", 4095, ""):                                                                       16 * 4095,
		"shared x, y; " + stored("a", 16, "y = 1;") + stored("b", 4080, "") + stored("c", 0, strings.Repeat("y=1;", 255)):                65535,
		"shared x, y; " + stored("a", 16, "y = 1;") + stored("b", 4080, "") + stored("c", 0, strings.Repeat("y=1;", 256)):                api.MaxStates,
		"shared x, y; " + stored("a", 16, "y = 1;") + stored("b", 4080, "") + stored("c", 0, strings.Repeat("y=1;", 257)):                -1,
		"shared x, y; " + stored("a", 256, "y = 1;") + stored("b", 256, "y = 1;"):                                                        -1,
		"shared x, y; thread c { y = 1; } " + stored("a", 256, "y = 1;") + stored("b", 256, ""):                                          -1,
		"shared x; " + stored("a", 4095, "") + stored("b", 4095, "") + stored("c", 4095, ""):                                             -1,
		"shared x; " + stored("a", 17, "") + stored("b", 4095, ""):                                                                       -1,
		"shared x; lock l; " + stored("a", 256, "lock l { x = 1; }") + stored("b", 256, ""):                                              -1,
		"shared x; lock l; " + stored("a", 0, "lock l { x = 1; }") + stored("b", 0, "lock l { x = 1; }") + stored("c", 2000, "print x;"): 4002,
	} {
		u := unit(t, s)
		l, why := sharing.Races(u)
		if want >= 0 && (why != api.OK || len(l) != want) || want < 0 && (why != api.ErrMany || len(l) != 0) {
			t.Errorf("%.80q: %d races, error %d, not %d", s, len(l), why, want)
		}
	}
}

// refused holds that all calls have an error, and answer nothing beside it.
func refused(t *testing.T, u api.Unit) {
	t.Helper()
	if l, why := sharing.Touches(u); len(l) != 0 || why != api.ErrGraph {
		t.Errorf("Touches: %v, error %d", l, why)
	}
	if l, why := sharing.Owners(u); len(l) != 0 || why != api.ErrGraph {
		t.Errorf("Owners: %v, error %d", l, why)
	}
	if l, why := sharing.Races(u); len(l) != 0 || why != api.ErrGraph {
		t.Errorf("Races: %v, error %d", l, why)
	}
	for _, at := range [][2]int{{0, 1}, {0, 0}, {-1, 5}, {math.MinInt, math.MaxInt}} {
		if is, why := sharing.Apart(u, at[0], at[1]); is || why != api.ErrGraph {
			t.Errorf("Apart of %v: %v, error %d", at, is, why)
		}
	}
}

// 9.1 to 9.4, P1, P2: units that may not be, however made; threads that are none.
func TestRefused(t *testing.T) {
	for _, spoil := range []func(u *api.Unit){
		func(u *api.Unit) { u.Shared[1].Name = "x" },
		func(u *api.Unit) { u.Shared = make([]api.Decl, api.MaxShared+1) },
		func(u *api.Unit) { u.Graphs = append(u.Graphs, api.Graph{Name: "c"}) },
		func(u *api.Unit) { u.Graphs[1].Nodes = nil },
		func(u *api.Unit) { u.Graphs[1].Nodes[0].Thing = 2 },
		func(u *api.Unit) { u.Graphs[1].Nodes[0].Thing = math.MinInt },
		func(u *api.Unit) { u.Graphs[1].Nodes[0].Next = 9 },
		func(u *api.Unit) { u.Graphs[0].Nodes[0].Kind = 200 },
		func(u *api.Unit) { u.Graphs[0].Nodes[0] = api.Node{Kind: api.NodeLock, Next: 1} },
	} {
		u := unit(t, crossed)
		spoil(&u)
		refused(t, u)
	}
	u := unit(t, "lock l; thread a { lock l { print 1; } }")
	u.Graphs[0].Nodes[1].Next = 3 // the lock is held at the end
	refused(t, u)
	u = unit(t, crossed)
	for _, at := range [][2]int{{0, 2}, {2, 0}, {2, 2}, {-1, 0}, {1, -1}, {-1, -1}, {math.MaxInt, 0}, {0, math.MinInt}} {
		if is, why := sharing.Apart(u, at[0], at[1]); is || why != api.ErrRange {
			t.Errorf("Apart of %v: %v, error %d", at, is, why)
		}
	}
	if is, why := sharing.Apart(api.Unit{}, 0, 0); is || why != api.ErrRange {
		t.Errorf("Apart of nothing: %v, error %d", is, why)
	}
}
