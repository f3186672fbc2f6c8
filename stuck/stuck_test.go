package stuck_test

import (
	"fmt"
	"math"
	"slices"
	"strings"
	"testing"

	"stile/api"
	"stile/cfg"
	"stile/parse"
	"stile/stuck"
)

func unit(t *testing.T, s string) api.Unit {
	t.Helper()
	p, why, f := parse.Parse(s)
	if why != api.OK {
		t.Fatalf("Parse(%q): error %d, %v", s, why, f)
	}
	u, why := cfg.Lower(p)
	if why != api.OK {
		t.Fatalf("Lower of %q: error %d", s, why)
	}
	return u
}

func edges(t *testing.T, u api.Unit) []api.Edge {
	t.Helper()
	l, why := stuck.Edges(u)
	if why != api.OK {
		t.Fatal("Edges: error", why)
	}
	return l
}

// found is a list that may be none, as text.
func found(t *testing.T, l []int, is bool, why api.Errno) string {
	t.Helper()
	if why != api.OK || !is && l != nil || is && len(l) == 0 {
		t.Error(l, is, "error", why)
	}
	if !is {
		return "none"
	}
	return fmt.Sprint(l)
}

func ring(t *testing.T, u api.Unit) string {
	t.Helper()
	l, is, why := stuck.Ring(u)
	return found(t, l, is, why)
}

func knot(t *testing.T, u api.Unit, schedule ...int) string {
	t.Helper()
	l, is, why := stuck.Knot(u, schedule)
	return found(t, l, is, why)
}

func way(t *testing.T, u api.Unit, most int) string {
	t.Helper()
	l, is, why := stuck.Way(u, most)
	return found(t, l, is, why)
}

func ends(t *testing.T, u api.Unit, most int) string {
	t.Helper()
	l, why := stuck.Stuck(u, most)
	if why != api.OK {
		t.Error("Stuck: error", why)
	}
	return fmt.Sprint(l)
}

// Example 1, and the fifth one of the document.
func TestTwo(t *testing.T) {
	u := unit(t, "lock l, m; thread a { lock l { lock m { } } } thread b { lock m { lock l { } } }")
	if got := fmt.Sprint(edges(t, u)); got != "[{0 1 {0 1}} {1 0 {1 1}}]" {
		t.Error(got)
	}
	if got := ring(t, u) + knot(t, u, 0, 1) + way(t, u, 200) + ends(t, u, 200); got != "[0 1][0 1][0 1][{[] [] false}]" {
		t.Error(got)
	}
	for schedule, want := range map[string]string{"": "none", "0": "none", "1": "none", "00": "none", "10": "[0 1]", "01010101": "[0 1]", "001": "none", "0000111": "none", "01110": "[0 1]"} {
		var l []int
		for _, b := range []byte(schedule) {
			l = append(l, int(b-'0'))
		}
		if got := knot(t, u, l...); got != want {
			t.Errorf("%s: %s, not %s", schedule, got, want)
		}
	}
	same := unit(t, "lock l, m; thread a { lock l { lock m { } } } thread b { lock l { lock m { } } }")
	if got := ring(t, same) + way(t, same, 200) + ends(t, same, 200); got != "nonenone[]" {
		t.Error(got)
	}
	if got := fmt.Sprint(edges(t, same)); got != "[{0 1 {0 1}} {0 1 {1 1}}]" {
		t.Error(got)
	}
}

// Example 2.
func TestOne(t *testing.T) {
	u := unit(t, "lock k, l; thread a { lock l { lock l { } } }")
	if got := fmt.Sprint(edges(t, u)) + ring(t, u) + knot(t, u, 0) + knot(t, u) + way(t, u, 9) + ends(t, u, 9); got != "[{1 1 {0 1}}][1][0]none[0][{[] [] false}]" {
		t.Error(got)
	}
}

// Example 3.
func TestThree(t *testing.T) {
	u := unit(t, "lock l, m, k; thread a { lock l { lock m { } } } thread b { lock m { lock k { } } } thread c { lock k { lock l { } } }")
	if got := ring(t, u) + knot(t, u, 2, 1, 0) + knot(t, u, 2, 0) + way(t, u, 999); got != "[0 1 2][0 1 2]none[0 1 2]" {
		t.Error(got)
	}
	u = unit(t, "lock l, m, k; thread a { lock l { lock k { } } } thread b { lock m { lock l { } } } thread c { lock k { lock m { } } }")
	if got := ring(t, u) + knot(t, u, 2, 1, 0) + way(t, u, 999); got != "[0 2 1][0 2 1][0 1 2]" {
		t.Error(got)
	}
}

// P24.1: which edges there are.
func TestEdges(t *testing.T) {
	for _, x := range []struct{ text, want string }{
		{"thread a { }", "[]"},
		{"lock l, m; thread a { lock l { } lock m { } lock l { } }", "[]"},
		{"lock l, m, k; thread a { lock m { lock l { lock k { } } } }", "[{1 0 {0 1}} {0 2 {0 2}} {1 2 {0 2}}]"}, // by rising Held
		{"lock l; thread a { lock l { lock l { lock l { } } } }", "[{0 0 {0 1}} {0 0 {0 2}}]"},                   // each once, though it is held twice
		{"shared x; lock l, m; thread a { local r; lock l { x = 1; if (x) { lock m { } } } }", "[{0 1 {0 4}}]"},
		{"lock l, m; thread a { while (0) { lock l { lock m { } } } }", "[]"}, // is not reached: see below
	} {
		u := unit(t, x.text)
		if strings.Contains(x.text, "while") { // that of the text is reached; the same node, when nothing leads to it, is not
			if got := fmt.Sprint(edges(t, u)); got != "[{0 1 {0 2}}]" {
				t.Error(got)
			}
			u.Graphs[0].Nodes[0].Next = u.Graphs[0].Nodes[0].Else
		}
		if got := fmt.Sprint(edges(t, u)); got != x.want {
			t.Errorf("%s: %s, not %s", x.text, got, x.want)
		}
	}
}

// chained is a unit whose edges are those named, each by a thread: two letters, from a on.
func chained(t *testing.T, l string) api.Unit {
	t.Helper()
	s := "lock a, b, c, d, e, f; thread t { "
	for _, pair := range strings.Fields(l) {
		s += "lock " + pair[:1] + " { lock " + pair[1:] + " { } } "
	}
	return unit(t, s+"}")
}

// P24.1: the shortest ring, of these the least.
func TestRing(t *testing.T) {
	for _, x := range []struct{ edges, want string }{
		{"", "none"},
		{"ab bc cd de ef", "none"},
		{"ab ac bd cd", "none"},
		{"ab bc cd de ef fa", "[0 1 2 3 4 5]"},
		{"ab bc ca ff", "[5]"},
		{"ab bc ca de ed", "[3 4]"},
		{"bc cb de ed", "[1 2]"},
		{"de ed cb bc", "[1 2]"},
		{"ac cb ba ab bd da", "[0 1]"},
		{"ac cb bd da ce ea", "[0 2 4]"},
		{"ab bd da ac ce ea", "[0 1 3]"},
		{"ac ce ea ab bd da", "[0 1 3]"},
		{"ad db ba ac ce ea", "[0 2 4]"},
		{"ab bc cd da ab be ed", "[0 1 2 3]"},
		{"ab be ed da ac cf fd", "[0 1 4 3]"},
		{"fe ef ee ff", "[4]"},
		{"fb bf", "[1 5]"},
		{"ab bc cb", "[1 2]"}, // a leads in, but none leads back
		{"ab ab ba ba", "[0 1]"},
	} {
		if got := ring(t, chained(t, x.edges)); got != x.want {
			t.Errorf("%q: %s, not %s", x.edges, got, x.want)
		}
	}
}

// P24.2: who waits for whom: for whoever holds the lock; a knot is told from its least thread on.
func TestKnot(t *testing.T) {
	u := unit(t, "lock l, m, k; thread a { lock l { lock l { } } } thread b { lock l { } } thread c { lock m { lock k { } } } thread d { lock k { lock m { } } } thread e { lock k { } }")
	for _, x := range []struct {
		schedule []int
		want     string
	}{
		{nil, "none"},
		{[]int{0}, "[0]"},
		{[]int{1, 0, 0}, "none"}, // b is inside, and waits for nobody
		{[]int{1, 1, 0}, "[0]"},
		{[]int{2, 3}, "[2 3]"},
		{[]int{3, 2, 4, 4}, "[2 3]"},
		{[]int{3, 2, 0}, "[0]"}, // the one with the least thread
		{[]int{4, 2, 3}, "none"},
		{[]int{4, 2, 3, 4, 3}, "[2 3]"},
		{[]int{-1, 99, 5, math.MaxInt, math.MinInt, 2, 5, 3}, "[2 3]"}, // no such threads
		{[]int{1, 1, 1, 1, 2, 2, 2, 2, 2, 2, 4, 4, 4, 3, 3, 3, 3, 3, 3}, "none"},
	} {
		if got := knot(t, u, x.schedule...); got != x.want {
			t.Errorf("%v: %s, not %s", x.schedule, got, x.want)
		}
	}
	waits := unit(t, "lock l, m; thread a { lock l { } } thread b { lock l { lock m { } } } thread c { lock m { lock l { } } }")
	if got := knot(t, waits, 1, 2, 0); got != "[1 2]" { // a waits for one of the knot, but is none of it
		t.Error(got)
	}
}

// P24.3: of those who can't go on, the one to which one comes soonest, of these by the least schedule.
func TestWay(t *testing.T) {
	for _, x := range []struct {
		text, way, ends string
	}{
		{"", "none", "[]"},
		{"thread a { }", "none", "[]"},
		{"thread a { while (1) { } }", "none", "[]"},
		{"lock l; thread a { while (1) { lock l { } } } thread b { lock l { } }", "none", "[]"},
		{"lock l; thread a { while (1) { lock l { } } } thread b { lock l { lock l { } } }", "[0 1]", "[{[] [] false}]"},
		{"shared x; lock l; thread a { x = 1; lock l { lock l { } } } thread b { print 7; }", "[0 0 1]", "[{[{1 7}] [1] false}]"},
		{"shared x; lock l; thread a { lock l { lock l { x = 1; } } } thread b { x = 2; lock l { print 5; } }", "[0 1]", "[{[] [2] false} {[{1 5}] [2] false}]"},
		{"lock l, m; thread a { lock l { lock m { } } } thread b { lock m { lock l { } } } thread c { print 1; print 2; }", "[0 1 2 2]", "[{[{2 1} {2 2}] [] false}]"},
		{"lock l, m; thread a { print 1; lock l { lock m { } } } thread b { lock m { lock l { } } print 2; }", "[0 0 1]", "[{[{0 1}] [] false}]"},
		{"shared x = 4; lock l; thread a { local r; r = swap(x, 0); if (r) { lock l { lock l { } } } } thread b { local r; r = swap(x, 0); if (r) { while (1) { } } }", "[0 0 0 1 1]", "[{[] [0] false}]"},
	} {
		u := unit(t, x.text)
		if got := way(t, u, 2000); got != x.way {
			t.Errorf("Way of %q: %s, not %s", x.text, got, x.way)
		}
		if got := ends(t, u, 2000); got != x.ends {
			t.Errorf("Stuck of %q: %s, not %s", x.text, got, x.ends)
		}
	}
}

// P24.1 to P24.3: errors in their order; with each of them all else is zero.
func TestErrors(t *testing.T) {
	u := unit(t, "lock l; thread a { lock l { lock l { } } }")
	wrong := unit(t, "lock l; thread a { lock l { lock l { } } }")
	wrong.Graphs[0].Nodes[0].Thing = 1
	none := api.Unit{Locks: make([]api.Decl, api.MaxLocks+1)} // wrong though it has no thread
	long := make([]int, api.MaxSteps+1)
	for _, x := range []struct {
		u    api.Unit
		l    []int
		most int
		want [4]api.Errno // of Edges and Ring, of Knot, of Stuck and Way
	}{
		{u, nil, 2, [4]api.Errno{}},
		{u, long[1:], api.MaxStates, [4]api.Errno{}},
		{u, long, 2, [4]api.Errno{1: api.ErrMany}},
		{u, nil, 1, [4]api.Errno{2: api.ErrMany}},
		{u, nil, 0, [4]api.Errno{2: api.ErrRange}},
		{u, nil, -1, [4]api.Errno{2: api.ErrRange}},
		{u, long, api.MaxStates + 1, [4]api.Errno{1: api.ErrMany, 2: api.ErrRange}},
		{none, nil, 2, [4]api.Errno{api.ErrGraph, api.ErrGraph, api.ErrGraph}},
		{wrong, nil, 2, [4]api.Errno{api.ErrGraph, api.ErrGraph, api.ErrGraph}},
		{wrong, long, 0, [4]api.Errno{api.ErrGraph, api.ErrGraph, api.ErrGraph}},
	} {
		e, w1 := stuck.Edges(x.u)
		r, isRing, w2 := stuck.Ring(x.u)
		k, isKnot, w3 := stuck.Knot(x.u, x.l)
		s, w4 := stuck.Stuck(x.u, x.most)
		w, isWay, w5 := stuck.Way(x.u, x.most)
		if w1 != x.want[0] || w2 != x.want[0] || w3 != x.want[1] || w4 != x.want[2] || w5 != x.want[2] {
			t.Error(w1, w2, w3, w4, w5, "not", x.want)
		}
		if x.want[0] != api.OK && (e != nil || r != nil || isRing) || x.want[1] != api.OK && (k != nil || isKnot) || x.want[2] != api.OK && (s != nil || w != nil || isWay) {
			t.Error("beside errors", x.want, e, r, isRing, k, isKnot, s, w, isWay)
		}
	}
	if got := ring(t, api.Unit{}) + knot(t, api.Unit{}) + knot(t, api.Unit{}, 0) + way(t, api.Unit{}, 1) + ends(t, api.Unit{}, 1) + fmt.Sprint(edges(t, api.Unit{})); got != "nonenonenonenone[][]" {
		t.Error(got)
	}
}

// As many locks, threads and nodes as there may be.
func TestLarge(t *testing.T) {
	names := make([]string, api.MaxLocks)
	for lock := range names {
		names[lock] = "l" + fmt.Sprint(lock)
	}
	within := func(first int) string {
		s := ""
		for n := range names {
			s += "lock " + names[(first+n)%len(names)] + " {"
		}
		return s + strings.Repeat("}", len(names))
	}
	s := "lock " + strings.Join(names, ", ") + "; "
	for thread := range api.MaxThreads {
		s += fmt.Sprintf("thread t%d { %s %s }", thread, within(2*thread), within(2*thread+1))
	}
	u := unit(t, s)
	if got := ring(t, u); got != "[0 1]" {
		t.Error(got)
	}
	if got := len(edges(t, u)); got != api.MaxThreads*api.MaxLocks*(api.MaxLocks-1) {
		t.Error(got)
	}
	var l []int
	for thread := range api.MaxThreads {
		l = append(l, thread, thread) // each has two, and waits for the next one
	}
	if got := knot(t, u, append(l, l...)...); got != "[0 1 2 3 4 5 6 7]" {
		t.Error(got)
	}
	u = unit(t, "lock "+strings.Join(names, ", ")+"; thread a { "+strings.Repeat("lock l0 { lock l1 { } } ", (api.MaxNodes-1)/4)+" } thread b { lock l1 { lock l0 { } } }")
	if got := fmt.Sprint(len(edges(t, u)), " ") + ring(t, u) + knot(t, u, slices.Repeat([]int{0}, 4*1000+1)...) + knot(t, u, append(slices.Repeat([]int{0}, 4*1000+1), 1)...); got != "1024 [0 1]none[0 1]" {
		t.Error(got)
	}
	if got := way(t, u, api.MaxStates); got != "[0 1]" {
		t.Error(got)
	}
}
