package fences_test

import (
	"fmt"
	"math"
	"slices"
	"strings"
	"testing"

	"stile/api"
	"stile/cfg"
	"stile/delay"
	"stile/fences"
	"stile/parse"
)

func unit(t *testing.T, s string) api.Unit {
	t.Helper()
	p, why, f := parse.Parse(s)
	if why != api.OK {
		t.Fatalf("Parse(%.300q): error %d, %v", s, why, f)
	}
	u, why := cfg.Lower(p)
	if why != api.OK {
		t.Fatalf("Lower of %.300q: error %d", s, why)
	}
	return u
}

// beside is a unit whose first thread is told; x, y, z are racy, g is guarded by l, p the first thread's alone; the second thread has no fences.
func beside(t *testing.T, s string) api.Unit {
	t.Helper()
	return unit(t, `shared x, y, z, g, p; lock l, m;
		thread a { local r, s; `+s+` print p; lock l { g = g; } }
		thread b { print x; print y; print z; lock l { g = g; } }`)
}

func place(t *testing.T, u api.Unit, merge bool) [][]int {
	t.Helper()
	l, why := fences.Place(u, merge)
	if why != api.OK || len(l) != len(u.Graphs) {
		t.Errorf("Place, %v: %v, error %d", merge, l, why)
	}
	return l
}

func cost(t *testing.T, u api.Unit, l ...[]int) int {
	t.Helper()
	n, why := fences.Cost(u, l)
	if why != api.OK {
		t.Errorf("Cost of %v: error %d", l, why)
	}
	return n
}

func needed(t *testing.T, u api.Unit, thread int, l []int, node int) bool {
	t.Helper()
	is, why := fences.Needed(u, thread, l, node)
	if why != api.OK {
		t.Errorf("Needed of %d, %v, %d: error %d", thread, l, node, why)
	}
	return is
}

func alone(t *testing.T, u api.Unit, thread int, l []int, node int) []int {
	t.Helper()
	w, is, why := fences.Alone(u, thread, l, node)
	if why != api.OK || is != (len(w) > 0) {
		t.Errorf("Alone of %d, %v, %d: %v, %v, error %d", thread, l, node, w, is, why)
	}
	return w
}

// 12.1 to 12.3: the chapter's first two examples.
func TestExamples(t *testing.T) {
	u := unit(t, "shared x, y; thread a { x = 1; print y; } thread b { y = 1; print x; }")
	for _, merge := range []bool{false, true} {
		l := place(t, u, merge)
		if s := fmt.Sprint(l, cost(t, u, l...)); s != "[[1] [1]] 2" {
			t.Error(s)
		}
	}
	for thread := range 2 {
		if w := alone(t, u, thread, []int{1}, 1); !needed(t, u, thread, []int{1}, 1) || !slices.Equal(w, []int{0, 1}) {
			t.Error(w)
		}
	}
	u = beside(t, "x = 1; r = y; s = z;")
	if s := fmt.Sprint(place(t, u, false), place(t, u, true)); s != "[[1 3] []] [[1] []]" {
		t.Error(s)
	}
}

// 12.1: where fences stand without merge, and with it: the chapter's third example, and the document's.
func TestPlace(t *testing.T) {
	for s, want := range map[string]string{
		"":                                                "[] []",
		"x = 1;":                                          "[] []",
		"r = y; x = 1;":                                   "[] []",
		"x = 1; print 1; r = y;":                          "[] []",
		"x = 1; r = swap(z, 1); r = y;":                   "[] []",
		"r = swap(x, 1); r = y;":                          "[] []",
		"lock l { g = 1; r = y; }":                        "[] []",
		"p = 1; r = y;":                                   "[] []",
		"lock l { g = 1; } print y;":                      "[3] [3]",
		"x = 1; y = 1; r = z;":                            "[2] [2]",
		"x = 1; r = y + z + x;":                           "[1 2 4] [1]",
		"x = 1; r = y; print 1; r = z;":                   "[1] [1]",
		"x = 1; r = y; y = 1; r = z;":                     "[1 4] [1 4]",
		"x = 1; r = y; p = 1; r = z;":                     "[1 4] [1]",
		"x = 1; if (r) { s = y; } s = z;":                 "[2 4] [2 4]",
		"x = 1; if (r) { s = y; } else { s = z; } r = x;": "[2 4 6] [2 4]",
		"x = 1; if (y) { s = y; } s = z;":                 "[1 3 5] [1]",
		"x = 1; r = y; while (r) { r = z; }":              "[1 4] [1]", // the third example
		"x = 1; while (y) { r = z; }":                     "[1 3] [1]",
		"while (y) { x = 1; r = z; }":                     "[0 3] [3]", // the loop's second load lies behind the first one's fence
		"while (y) { r = z; x = 1; }":                     "[0 2] [0]",
		"while (y) { x = 1; }":                            "[0] [0]",
		"while (1) { if (r) { r = y; } else { x = 1; } if (s) { r = z; } }": "[2 6] [2 6]",
		"x = 1; while (r) { while (y) { r = z; } x = 2; } r = x;":           "[2 4 7] [2 7]",
		"lock l { x = 1; r = y; } s = z; r = x;":                            "[2 5 7] [2 5]",
	} {
		u := beside(t, s)
		if got := fmt.Sprint(place(t, u, false)[0], place(t, u, true)[0]); got != want {
			t.Errorf("%q: %s, not %s", s, got, want)
		}
		for _, merge := range []bool{false, true} {
			if is, why := delay.Safe(u, place(t, u, merge)); !is || why != api.OK { // 12.5
				t.Errorf("%q: not safe: error %d", s, why)
			}
			if l := place(t, u, merge)[1]; len(l) != 0 { // 12.7
				t.Errorf("%q: %v", s, l)
			}
		}
	}
	if l := place(t, api.Unit{}, true); l != nil {
		t.Error(l)
	}
}

// 12.1: the document's examples of the whole.
func TestWhole(t *testing.T) {
	for s, want := range map[string]string{
		"shared x, y; thread a { x = 1; print y; } thread b { y = 1; print x; }":                                                           "[[1] [1]]",
		"shared x, y; thread a { x = 1; y = 1; } thread b { print y; print x; }":                                                           "[[] []]",
		"shared g; lock l; thread a { lock l { g = g + 1; } } thread b { lock l { g = g + 1; } }":                                          "[[] []]",
		"shared g, y; lock l; thread a { lock l { g = 1; } print y; } thread b { lock l { g = 2; } y = 1; }":                               "[[3] []]",
		"shared p; thread a { p = 1; p = 2; print p; }":                                                                                    "[[]]",
		"shared x, y; thread a { local r; r = swap(x, 1); print y; } thread b { local r; r = swap(y, 1); print x; }":                       "[[] []]",
		"shared x, y; thread a { x = 1; print y; } thread b { y = 1; print x; } thread c { x = 2; print 1; print y; y = 3; print x + y; }": "[[1] [1] [5]]",
	} {
		if got := fmt.Sprint(place(t, unit(t, s), true)); got != want {
			t.Errorf("%q: %s, not %s", s, got, want)
		}
	}
}

// 12.2: each loop makes a fence dearer, up to sixteen of them.
func TestCost(t *testing.T) {
	u := unit(t, "shared x, y; thread a { x = 1; while (x) { while (y) { print 1; } } } thread b { y = 1; } thread c { }")
	for _, x := range []struct {
		a, b []int
		want int
	}{
		{nil, nil, 0},
		{[]int{0}, nil, 1},
		{[]int{1}, nil, 4},
		{[]int{3}, nil, 16},
		{[]int{0, 1, 2, 3, 4, 5, 6}, nil, 1 + 4 + 4 + 16 + 16 + 16 + 1},
		{[]int{0, 6}, []int{0, 1}, 4},
		{nil, []int{1}, 1},
	} {
		if n := cost(t, u, x.a, x.b, nil); n != x.want {
			t.Error(x, n)
		}
	}
	if n := cost(t, api.Unit{}); n != 0 {
		t.Error(n)
	}
	for loops, want := range map[int]int{1: 4, 10: 1 << 20, 15: 1 << 30, 16: 1 << 32, 17: 1 << 32, 40: 1 << 32} {
		u := unit(t, "shared x; thread a { "+strings.Repeat("while (1) { ", loops)+"x = 1; "+strings.Repeat("} ", loops)+"}")
		if n := cost(t, u, []int{loops}); n != want {
			t.Error(loops, n)
		}
	}
}

// 12.3: which fences are needed, and on which ways they stand alone.
func TestNeeded(t *testing.T) {
	for _, x := range []struct {
		s      string
		fences []int
		want   string // of each fence whether it is needed, and its way
	}{
		{"x = 1; r = y; s = z;", []int{1}, "true[0 1]"},
		{"x = 1; r = y; s = z;", []int{1, 3}, "true[0 1] false[]"},
		{"x = 1; r = y; s = z;", []int{3}, "true[0 1 2 3]"}, // y is open anyway
		{"x = 1; r = y; s = z;", []int{0, 1}, "false[] true[0 1]"},
		{"x = 1; r = y; s = z;", []int{0}, "true[]"},
		{"x = 1; r = y; s = z;", []int{2, 5}, "true[0 1 2 3] true[]"},
		// Ahead of what is no load.
		{"x = 1; s = r; r = y;", []int{1}, "true[0 1 2]"},
		{"x = 1; s = r; r = y;", []int{1, 2}, "false[] false[]"},
		{"x = 1; print 1; r = y;", []int{1}, "false[]"},
		{"x = 1; print 1; r = y;", []int{2}, "false[]"},
		{"x = 1; z = 1; r = y;", []int{1}, "true[0 1 2]"},
		{"x = 1; z = 1; r = y;", []int{2}, "true[1 2]"},
		{"x = 1; z = 1; r = y;", []int{1, 2}, "false[] true[1 2]"},
		// The way that comes by the fence, not the shortest one of all.
		{"x = 1; if (r) { s = 1; s = 2; s = 3; } r = y;", []int{3}, "true[0 1 2 3 4 5]"},
		{"x = 1; if (r) { s = 1; } else { s = 2; } r = y;", []int{2}, "true[0 1 2 4]"},
		{"x = 1; if (r) { s = 1; } else { s = 2; } r = y;", []int{2, 3}, "true[0 1 2 4] true[0 1 3 4]"},
		{"x = 1; if (r) { s = 1; } else { s = 2; } r = y;", []int{4}, "true[0 1 2 4]"},
		// By the way back: the least store, from where it is as short.
		{"while (y) { x = 1; }", []int{0}, "true[2 0]"},
		{"while (y) { x = 1; }", []int{2}, "true[2 0 1 2 0]"},
		{"while (y) { x = 1; }", []int{1}, "true[2 0 1 2 0]"},
		{"while (r) { if (s) { x = 1; } else { x = 2; } s = 2; } r = y;", []int{4}, "true[2 4 0 5]"},
		{"if (s) { x = 1; } else { z = 2; } r = y;", []int{3}, "true[1 3]"},
		// A way goes on by the least nodes behind the fence, too.
		{"x = 1; s = 1; if (s) { s = y; } else { s = z; }", []int{1}, "true[0 1 2 3]"},
		{"x = 1; s = 1; if (s) { s = y; } else { s = z; }", []int{2, 5}, "true[0 1 2 3] false[]"},
	} {
		u := beside(t, x.s)
		var got []string
		for _, node := range x.fences {
			got = append(got, fmt.Sprint(needed(t, u, 0, x.fences, node))+fmt.Sprint(alone(t, u, 0, x.fences, node)))
		}
		if s := strings.Join(got, " "); s != x.want {
			t.Errorf("%q, %v: %s, not %s", x.s, x.fences, s, x.want)
		}
	}
}

// refused holds that the calls of a thread have an error, and answer nothing beside it.
func refused(t *testing.T, u api.Unit, thread int, l []int, node int, want api.Errno) {
	t.Helper()
	if is, why := fences.Needed(u, thread, l, node); is || why != want {
		t.Errorf("Needed of %d, %v, %d: %v, error %d", thread, l, node, is, why)
	}
	if w, is, why := fences.Alone(u, thread, l, node); w != nil || is || why != want {
		t.Errorf("Alone of %d, %v, %d: %v, %v, error %d", thread, l, node, w, is, why)
	}
}

func noCost(t *testing.T, u api.Unit, l [][]int, want api.Errno) {
	t.Helper()
	if n, why := fences.Cost(u, l); n != 0 || why != want {
		t.Errorf("Cost of %v: %d, error %d", l, n, why)
	}
}

// 12.1 to 12.3, P1, P2: units that may not be; threads, nodes and fences that are none; which error comes first.
func TestRefused(t *testing.T) {
	const text = "shared x, y; lock l; thread a { x = 1; print y; } thread b { lock l { y = 1; } print x; }"
	wrong := []int{math.MinInt, -1, 2, math.MaxInt}
	for _, spoil := range []func(u *api.Unit){
		func(u *api.Unit) { u.Shared[1].Name = "x" },
		func(u *api.Unit) { u.Graphs = append(u.Graphs, api.Graph{Name: "c"}) },
		func(u *api.Unit) { u.Graphs[0].Nodes = nil },
		func(u *api.Unit) { u.Graphs[0].Nodes[0].Thing = 2 },
		func(u *api.Unit) { u.Graphs[0].Nodes[0].Next = 99 },
		func(u *api.Unit) { u.Graphs[1].Nodes[0].Kind = api.NodeCount },
		func(u *api.Unit) { u.Graphs[1].Nodes[0].Next = 3 },
	} {
		u := unit(t, text)
		spoil(&u)
		for _, n := range append(wrong, 0, 1) {
			refused(t, u, n, []int{1}, 1, api.ErrGraph)
			refused(t, u, n, []int{n}, 9, api.ErrGraph)
		}
		for _, merge := range []bool{false, true} {
			if l, why := fences.Place(u, merge); l != nil || why != api.ErrGraph {
				t.Errorf("Place: %v, error %d", l, why)
			}
		}
		noCost(t, u, make([][]int, len(u.Graphs)), api.ErrGraph)
		noCost(t, u, nil, api.ErrGraph)
	}
	u := unit(t, text)
	for _, n := range wrong {
		refused(t, u, n, []int{1}, 1, api.ErrRange)
		refused(t, u, n, []int{-1}, 7, api.ErrRange)
	}
	refused(t, api.Unit{}, 0, nil, 0, api.ErrRange)
	for _, l := range [][]int{{-1}, {4}, {1, 1}, {1, 0}, {0, 1, 2, 3, 4}, {math.MinInt, 1}, {1, math.MaxInt}, {1, 2, 2}} {
		refused(t, u, 0, l, 1, api.ErrFence)
		noCost(t, u, [][]int{l, nil}, api.ErrFence)
		noCost(t, u, [][]int{nil, append(slices.Clone(l), l...)}, api.ErrFence)
	}
	for _, n := range []int{0, 2, 4, -1, math.MinInt, math.MaxInt} {
		refused(t, u, 0, []int{1, 3}, n, api.ErrFence)
		refused(t, u, 0, nil, n, api.ErrFence)
	}
	for _, l := range [][][]int{nil, {nil}, {nil, nil, nil}, {{1}}, {nil, {6}}, {{4}, nil}} {
		noCost(t, u, l, api.ErrFence)
	}
	noCost(t, api.Unit{}, [][]int{nil}, api.ErrFence)
}
