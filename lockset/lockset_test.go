package lockset_test

import (
	"fmt"
	"math"
	"slices"
	"strings"
	"testing"

	"stile/api"
	"stile/cfg"
	"stile/lockset"
	"stile/parse"
)

func unit(t *testing.T, s string) api.Unit {
	t.Helper()
	p, why, f := parse.Parse(s)
	if why != api.OK {
		t.Fatalf("Parse(%.300q): error %d, %v", s, why, f)
	}
	u, why := cfg.Lower(p)
	if why != api.OK {
		t.Fatalf("Lower of %.300q: error %d", s, why)
	}
	return u
}

func held(t *testing.T, u api.Unit, thread int) [][]int {
	t.Helper()
	l, why := lockset.Held(u, thread)
	if why != api.OK || len(l) != len(u.Graphs[thread].Nodes) {
		t.Errorf("Held of %d: %v, error %d", thread, l, why)
	}
	return l
}

func guards(t *testing.T, u api.Unit) [][]int {
	t.Helper()
	l, why := lockset.Guards(u)
	if why != api.OK || len(l) != len(u.Shared) {
		t.Errorf("Guards: %v, error %d", l, why)
	}
	return l
}

func classes(t *testing.T, u api.Unit) []api.Class {
	t.Helper()
	l, why := lockset.Classes(u)
	if why != api.OK || len(l) != len(u.Shared) {
		t.Errorf("Classes: %v, error %d", l, why)
	}
	return l
}

func under(t *testing.T, u api.Unit, lock int) []api.Access {
	t.Helper()
	l, why := lockset.Under(u, lock)
	if why != api.OK {
		t.Errorf("Under %d: error %d", lock, why)
	}
	return l
}

func bare(t *testing.T, u api.Unit, thing, lock int) []api.Access {
	t.Helper()
	l, why := lockset.Bare(u, thing, lock)
	if why != api.OK {
		t.Errorf("Bare of %d without %d: error %d", thing, lock, why)
	}
	return l
}

// shown writes classes: unused, private a thread, guarded by a lock, racy.
func shown(l []api.Class) string {
	s := ""
	for _, c := range l {
		switch c {
		case api.Class{}:
			s += "- "
		case api.Class{Kind: api.ClassPrivate, Thread: c.Thread}:
			s += fmt.Sprint("p", c.Thread, " ")
		case api.Class{Kind: api.ClassGuarded, Lock: c.Lock}:
			s += fmt.Sprint("g", c.Lock, " ")
		case api.Class{Kind: api.ClassRacy}:
			s += "r "
		default:
			s += fmt.Sprintf("%+v ", c)
		}
	}
	return strings.TrimSpace(s)
}

// 10.1 to 10.3: the chapter's examples.
func TestExamples(t *testing.T) {
	const one = "shared x; lock l; thread a { lock l { x = 1; } } "
	u := unit(t, one+"thread b { lock l { x = 1; } }")
	if s := fmt.Sprint(guards(t, u), shown(classes(t, u)), bare(t, u, 0, 0)); s != "[[0]]g0[]" {
		t.Error(s)
	}
	u = unit(t, one+"thread b { x = 1; }")
	if s := fmt.Sprint(guards(t, u), shown(classes(t, u)), bare(t, u, 0, 0)); s != "[[]]r[{1 0}]" {
		t.Error(s)
	}
	u = unit(t, "shared x; lock l, m, k; thread a { lock l { lock m { x = 1; } } } thread b { lock l { lock k { x = 1; } } } thread c { lock m { lock k { x = 1; } } }")
	if s := fmt.Sprint(guards(t, u), shown(classes(t, u))); s != "[[]]r" {
		t.Error(s)
	}
	u = unit(t, "shared p, q; thread a { p = 1; print p; }")
	if s := fmt.Sprint(guards(t, u), shown(classes(t, u))); s != "[[] []]p0 -" {
		t.Error(s)
	}
}

// 10.1: what is held ahead of each node, each lock once, rising.
func TestHeld(t *testing.T) {
	for s, want := range map[string]string{
		"":                            "[[]]",
		"lock l { x = 1; }":           "[[] [0] [0] []]",
		"lock m { lock l { skip; } }": "[[] [1] [0 1] [1] []]",
		"lock l { lock m { } } lock m { lock l { } }":                           "[[] [0] [0 1] [0] [] [1] [0 1] [1] []]",
		"lock k { lock l { lock m { x = 1; } } }":                               "[[] [2] [0 2] [0 1 2] [0 1 2] [0 2] [2] []]",
		"lock l { lock l { x = 1; } }":                                          "[[] [0] [0] [0] [0] []]",
		"lock m { lock l { lock m { x = 1; } x = 2; } x = 3;}":                  "[[] [1] [0 1] [0 1] [0 1] [0 1] [0 1] [1] [1] []]",
		"while (1) { lock l { if (1) { x = 1; } else { lock m { } } } x = 2; }": "[[] [] [0] [0] [0] [0 1] [0] [] []]",
	} {
		u := unit(t, "shared x; lock l, m, k; thread o { lock m { lock k { } } } thread a { "+s+" }")
		if got := fmt.Sprint(held(t, u, 1)); got != want {
			t.Errorf("%q: %s, not %s", s, got, want)
		}
		if got := fmt.Sprint(held(t, u, 0)); got != "[[] [1] [1 2] [1] []]" {
			t.Error(got)
		}
	}
}

// 10.1, 10.2: guards and classes.
func TestClasses(t *testing.T) {
	for s, want := range map[string]string{
		"":             "[]; ",
		"thread a { }": "[]; ",
		"shared x, y;": "[[] []]; - -",
		"lock l; shared x; thread a { lock l { } }": "[[]]; -",
		// One thread alone: private, guarded or not.
		"shared x; lock l; thread a { } thread b { lock l { x = 1; print x; } }":                 "[[0]]; p1",
		"shared x; lock l; thread a { } thread b { lock l { x = 1; } print x; }":                 "[[]]; p1",
		"shared x; lock l, m; thread a { lock m { lock l { x = swap(x, 1); } } }":                "[[0 1]]; p0",
		"shared x, y; lock l; thread a { x = 1; } thread b { } thread c { } thread d { y = 1; }": "[[] []]; p0 p3",
		// Several: reading alone is racy, too.
		"shared x; thread a { print x; } thread b { print x; }":                                                                            "[[]]; r",
		"shared x; lock l; thread a { lock l { print x; } } thread b { lock l { print x; } }":                                              "[[0]]; g0",
		"shared x; lock l; thread a { lock l { x = 1; } } thread b { lock l { } print x; }":                                                "[[]]; r",
		"shared x; lock l; thread a { lock l { x = 1; } x = 1; } thread b { lock l { x = 1; } }":                                           "[[]]; r",
		"shared x; lock l, m; thread a { lock l { x = 1; } } thread b { lock m { x = 1; } }":                                               "[[]]; r",
		"shared x; lock l, m; thread a { lock m { x = 1; } } thread b { lock m { x = 1; } }":                                               "[[1]]; g1",
		"shared x; lock l, m; thread a { lock m { lock l { x = 1; } } } thread b { lock l { lock m { x = 1; } } }":                         "[[0 1]]; g0",
		"shared x; lock l, m; thread a { lock m { lock l { x = 1; } x = 2; } } thread b { lock l { lock m { x = 1; } } }":                  "[[1]]; g1",
		"shared x, y; lock l, m; thread a { lock l { lock m { x = 1; y = 1; } y = 2; } } thread b { lock m { x = 1; } lock l { y = 1; } }": "[[1] [0]]; g1 g0",
		"shared x; lock l, m, k; thread a { lock k { lock m { lock l { x = 1; } } } } thread b { lock m { lock k { x = 1; } } }":           "[[1 2]]; g1",
		"shared x; lock l; thread a { lock l { lock l { x = 1; } } } thread b { lock l { x = 1; } }":                                       "[[0]]; g0",
		"shared x; lock l; thread a { local r; lock l { r = swap(x, 1); } } thread b { local r; r = swap(x, 1); }":                         "[[]]; r",
		"shared x; lock l; thread a { lock l { while (x) { } } } thread b { lock l { if (x) { } } }":                                       "[[0]]; g0",
		"shared x; lock l; thread a { lock l { while (x) { } } } thread b { while (x) { lock l { } } }":                                    "[[]]; r",
		"shared x, g, p, q; lock l, m; thread a { lock l { g = 1; x = 1; } p = 2; } thread b { lock m { lock l { g = 2; } x = 3; } }":      "[[] [0] [] []]; r g0 p0 -",
	} {
		u := unit(t, s)
		if got := fmt.Sprint(guards(t, u), "; ", shown(classes(t, u))); got != want {
			t.Errorf("%q: %s, not %s", s, got, want)
		}
	}
	// As many locks, variables and threads as may be.
	s := "lock l0"
	for i := 1; i < api.MaxLocks; i++ {
		s += fmt.Sprint(", l", i)
	}
	s += "; shared x0"
	for i := 1; i < api.MaxShared; i++ {
		s += fmt.Sprint(", x", i)
	}
	s += ";"
	for i := range api.MaxThreads {
		s += fmt.Sprint(" thread t", i, " { lock l15 { x63 = 1; } x62 = 1; }")
	}
	u := unit(t, s)
	if c, g := classes(t, u), guards(t, u); shown(c[62:]) != "r g15" || fmt.Sprint(g[62:]) != "[[] [15]]" || shown(c[:62]) != strings.TrimSpace(strings.Repeat("- ", 62)) {
		t.Error(shown(c), g)
	}
}

// 10.3: where a lock is held, and where a variable is touched without.
func TestUnderBare(t *testing.T) {
	u := unit(t, `shared x, y; lock l, m, k;
		thread a { local r; lock l { x = 1; lock m { r = swap(y, x); } } print x; }
		thread b { lock m { if (x) { y = 1; } } y = 2; }
		thread c { }`)
	for lock, want := range []string{
		"[{0 1} {0 2} {0 3} {0 4} {0 5} {0 6}]",
		"[{0 3} {0 4} {0 5} {1 1} {1 2} {1 3} {1 4}]",
		"[]",
	} {
		if got := fmt.Sprint(under(t, u, lock)); got != want {
			t.Errorf("Under %d: %s, not %s", lock, got, want)
		}
	}
	for thing, l := range [][]string{
		{"[{0 7} {1 1}]", "[{0 1} {0 7}]", "[{0 1} {0 3} {0 7} {1 1}]"},
		{"[{1 3} {1 5}]", "[{1 5}]", "[{0 4} {1 3} {1 5}]"},
	} {
		for lock, want := range l {
			if got := fmt.Sprint(bare(t, u, thing, lock)); got != want {
				t.Errorf("Bare of %d without %d: %s, not %s", thing, lock, got, want)
			}
		}
	}
}

// 10.1 to 10.3: of a node that is not reached nothing is told, and it does not count.
func TestUnreached(t *testing.T) {
	g := api.Graph{Name: "a", Slots: 1, Nodes: []api.Node{
		{Kind: api.NodeLock, Next: 1},
		{Kind: api.NodeStore, Next: 2},
		{Kind: api.NodeUnlock, Next: 3},
		{Kind: api.NodeEnd},
		{Kind: api.NodeLock, Next: 1},
		{Kind: api.NodeLoad, Next: 2},
		{Kind: api.NodeSwap, Thing: 1, Next: 5},
		{Kind: api.NodeUnlock, Thing: 1, Next: 0},
	}}
	h := api.Graph{Name: "b", Slots: 1, Nodes: slices.Clone(g.Nodes)}
	u := api.Unit{Shared: []api.Decl{{Name: "x"}, {Name: "y"}}, Locks: []api.Decl{{Name: "l"}, {Name: "m"}}, Graphs: []api.Graph{g, h}}
	all := func() string {
		return fmt.Sprint(held(t, u, 0), guards(t, u), shown(classes(t, u)), under(t, u, 0), bare(t, u, 0, 0), bare(t, u, 0, 1), bare(t, u, 1, 1))
	}
	if s := all(); s != "[[] [0] [0] [] [] [] [] []] [[0] []]g0 -[{0 1} {0 2} {1 1} {1 2}] [] [{0 1} {1 1}] []" {
		t.Error(s)
	}
	u.Graphs[1].Nodes[0] = api.Node{Kind: api.NodeSet, Next: 3}
	if s := all(); s != "[[] [0] [0] [] [] [] [] []] [[0] []]p0 -[{0 1} {0 2}] [] [{0 1}] []" {
		t.Error(s)
	}
}

// refused holds that all calls have an error, and answer nothing beside it.
func refused(t *testing.T, u api.Unit, thread, thing, lock int, want api.Errno) {
	t.Helper()
	if l, why := lockset.Held(u, thread); len(l) != 0 || why != want {
		t.Errorf("Held of %d: %v, error %d", thread, l, why)
	}
	if l, why := lockset.Under(u, lock); len(l) != 0 || why != want {
		t.Errorf("Under %d: %v, error %d", lock, l, why)
	}
	if l, why := lockset.Bare(u, thing, lock); len(l) != 0 || why != want {
		t.Errorf("Bare of %d without %d: %v, error %d", thing, lock, l, why)
	}
}

// 10.1 to 10.3, P1, P2: units that may not be; threads, variables and locks that are none.
func TestRefused(t *testing.T) {
	const text = "shared x, y, z; lock l; thread a { lock l { x = 1; } } thread b { print y; }"
	wrong := []int{math.MinInt, -1, 5, math.MaxInt}
	for _, spoil := range []func(u *api.Unit){
		func(u *api.Unit) { u.Shared[1].Name = "x" },
		func(u *api.Unit) { u.Locks[0].Word = 1 },
		func(u *api.Unit) { u.Locks = make([]api.Decl, api.MaxLocks+1) },
		func(u *api.Unit) { u.Graphs = append(u.Graphs, api.Graph{Name: "c"}) },
		func(u *api.Unit) { u.Graphs[0].Nodes = nil },
		func(u *api.Unit) { u.Graphs[0].Nodes[0].Thing = 1 },
		func(u *api.Unit) { u.Graphs[0].Nodes[0].Thing = math.MaxInt },
		func(u *api.Unit) { u.Graphs[1].Nodes[0].Thing = -1 },
		func(u *api.Unit) { u.Graphs[0].Nodes[1].Next = 3 },
		func(u *api.Unit) { u.Graphs[0].Nodes[1].Next = 99 },
		func(u *api.Unit) { u.Graphs[1].Nodes[0].Kind = api.NodeCount },
	} {
		u := unit(t, text)
		spoil(&u)
		for _, n := range append(wrong, 0, 1) {
			refused(t, u, n, n, n, api.ErrGraph)
		}
		if l, why := lockset.Guards(u); len(l) != 0 || why != api.ErrGraph {
			t.Errorf("Guards: %v, error %d", l, why)
		}
		if l, why := lockset.Classes(u); len(l) != 0 || why != api.ErrGraph {
			t.Errorf("Classes: %v, error %d", l, why)
		}
	}
	u := unit(t, text)
	for _, n := range wrong {
		refused(t, u, n, n, n, api.ErrRange)
	}
	refused(t, u, 2, 3, 1, api.ErrRange)
	refused(t, api.Unit{}, 0, 0, 0, api.ErrRange)
	for _, at := range [][2]int{{0, 1}, {2, 1}, {0, -1}, {3, 0}, {-1, 0}} {
		if l, why := lockset.Bare(u, at[0], at[1]); len(l) != 0 || why != api.ErrRange {
			t.Errorf("Bare of %v: %v, error %d", at, l, why)
		}
	}
}
