package delay_test

import (
	"fmt"
	"math"
	"slices"
	"testing"

	"stile/api"
	"stile/cfg"
	"stile/delay"
	"stile/parse"
)

func unit(t *testing.T, s string) api.Unit {
	t.Helper()
	p, why, f := parse.Parse(s)
	if why != api.OK {
		t.Fatalf("Parse(%.300q): error %d, %v", s, why, f)
	}
	u, why := cfg.Lower(p)
	if why != api.OK {
		t.Fatalf("Lower of %.300q: error %d", s, why)
	}
	return u
}

// beside is a unit whose first thread is told; x, y, z are racy, g is guarded by l, p the first thread's alone.
func beside(t *testing.T, s string) api.Unit {
	t.Helper()
	return unit(t, `shared x, y, z, g, p; lock l, m;
		thread a { local r, s; `+s+` p = p; lock l { g = g; } }
		thread b { x = y; y = z; z = x; lock l { g = g; } }`)
}

func open(t *testing.T, u api.Unit, thread int, fences ...int) []bool {
	t.Helper()
	l, why := delay.Open(u, thread, fences)
	if why != api.OK || len(l) != len(u.Graphs[thread].Nodes) {
		t.Errorf("Open of %d with %v: %v, error %d", thread, fences, l, why)
	}
	return l
}

func loads(t *testing.T, u api.Unit, thread int, fences ...int) []int {
	t.Helper()
	l, why := delay.Loads(u, thread, fences)
	if why != api.OK {
		t.Errorf("Loads of %d with %v: error %d", thread, fences, why)
	}
	return l
}

func pairs(t *testing.T, u api.Unit, thread int) []api.Delay {
	t.Helper()
	l, why := delay.Pairs(u, thread)
	if why != api.OK {
		t.Errorf("Pairs of %d: error %d", thread, why)
	}
	return l
}

func way(t *testing.T, u api.Unit, thread, from, to int) []int {
	t.Helper()
	l, is, why := delay.Way(u, thread, from, to)
	if why != api.OK || is != (len(l) > 0) {
		t.Errorf("Way of %d, %d to %d: %v, %v, error %d", thread, from, to, l, is, why)
	}
	return l
}

func safe(t *testing.T, u api.Unit, fences ...[]int) bool {
	t.Helper()
	is, why := delay.Safe(u, fences)
	if why != api.OK {
		t.Errorf("Safe with %v: error %d", fences, why)
	}
	return is
}

// marks writes which of some are true.
func marks(l []bool) string {
	s := ""
	for _, is := range l {
		if is {
			s += "o"
		} else {
			s += "."
		}
	}
	return s
}

// 11.1 to 11.4: the chapter's first example.
func TestStoreBuffering(t *testing.T) {
	u := unit(t, "shared x, y; thread a { x = 1; print y; } thread b { y = 1; print x; }")
	for thread := range 2 {
		if s := fmt.Sprint(pairs(t, u, thread), way(t, u, thread, 0, 1), loads(t, u, thread), loads(t, u, thread, 1), loads(t, u, thread, 0)); s != "[{0 1}] [0 1] [1] [] [1]" {
			t.Error(s)
		}
		for _, x := range []struct {
			fences []int
			want   string
		}{{nil, ".oo."}, {[]int{0}, ".oo."}, {[]int{1}, "...."}, {[]int{2}, ".o.."}, {[]int{3}, ".oo."}, {[]int{0, 1, 2, 3}, "...."}} {
			if s := marks(open(t, u, thread, x.fences...)); s != x.want {
				t.Error(x.fences, s, "not", x.want)
			}
		}
	}
	for _, x := range []struct {
		a, b []int
		want bool
	}{{nil, nil, false}, {[]int{1}, []int{1}, true}, {[]int{1}, nil, false}, {nil, []int{1}, false}, {[]int{0, 2, 3}, []int{1}, false}, {[]int{0, 1}, []int{1, 3}, true}} {
		if safe(t, u, x.a, x.b) != x.want {
			t.Error(x)
		}
	}
}

// 11.1, 11.2: what opens, what is open, what drains; the chapter's other examples, and the document's.
func TestOpen(t *testing.T) {
	for s, want := range map[string]string{
		"":                       "",
		"x = 1;":                 "",
		"r = y;":                 "",
		"r = y; x = 1;":          "",
		"x = 1; r = x;":          "{0 1}", // its own store, too
		"x = 1; print 5; r = y;": "",
		"x = 1; print y;":        "{0 1}",
		"x = 1; print r; s = y;": "",
		// Exchanges drain, whatever they are of.
		"x = 1; r = swap(z, 2); s = y;": "",
		"x = 1; r = swap(p, 2); s = y;": "",
		"r = swap(x, 1); s = y;":        "",
		"r = swap(x, 1);":               "",
		// So does taking a lock; giving it back opens.
		"x = 1; lock l { g = 1; r = y; }":          "",
		"lock l { g = 1; } r = y;":                 "{2 3}",
		"lock l { g = 1; } print y;":               "{2 3}",
		"lock l { g = 1; r = y; }":                 "",
		"lock m { } r = y;":                        "{1 2}",
		"lock l { lock m { g = 1; } r = y; }":      "{3 4}",
		"lock l { x = 1; } r = y;":                 "{1 3} {2 3}",
		"lock l { x = 1; r = y; } s = z;":          "{1 2} {1 5} {4 5}",
		"lock l { x = 1; } lock m { } r = y;":      "{4 5}",
		"lock l { x = 1; r = g; r = p; } print z;": "{1 7} {6 7}",
		// What is not racy neither opens nor is open.
		"p = 1; r = y;":                                                      "",
		"x = 1; r = p; r = s + r;":                                           "",
		"lock l { g = 1; r = g; }":                                           "",
		"x = 1; p = 1; r = y;":                                               "{0 2}",
		"x = 1; y = 1; r = z + x;":                                           "{0 2} {0 3} {1 2} {1 3}",
		"x = 1; if (r) { s = y; }":                                           "{0 2}",
		"if (y) { x = 1; } print z":                                          "{2 3}",
		"if (r) { x = 1; } else { s = z; } s = y;":                           "{1 4}",
		"x = 1; if (r) { print 1; } s = y;":                                  "{0 3}",
		"x = 1; if (r) { print 1; } else { print 2; } s = y;":                "",
		"while (x) { y = 1; }":                                               "{2 0}",
		"while (x) { y = 1; print 1; }":                                      "",
		"while (1) { r = x; y = 1; }":                                        "{3 1}",
		"while (1) { if (r) { r = x; } else { y = 1; } }":                    "{4 2}",
		"while (1) { r = x; y = 1; r = swap(p, 1); }":                        "",
		"x = 1; while (y) { lock m { } }":                                    "{0 1} {4 1}",
		"while (1) { while (r) { y = 1; } lock m { } while (s) { r = x; } }": "{4 6}",
	} {
		if s != "" && s[len(s)-1] != ';' && s[len(s)-1] != '}' {
			s += ";"
		}
		u := beside(t, s)
		l := pairs(t, u, 0)
		if got := fmt.Sprint(l); got != "["+want+"]" {
			t.Errorf("Pairs of %q: %s, not %s", s, got, want)
		}
		var to []int
		for _, x := range l {
			to = append(to, x.To)
		}
		slices.Sort(to)
		if n := loads(t, u, 0); !slices.Equal(n, slices.Compact(to)) { // 11.6
			t.Errorf("Loads of %q: %v, not %v", s, n, to)
		}
	}
}

// 11.1: a way comes to a drain, too, but not by it; it comes to its beginning again, if no fence stands there.
func TestWaysOn(t *testing.T) {
	for s, want := range map[string]string{
		"x = 1; print r; s = y;":        ".o.",
		"x = 1; r = swap(z, s); s = y;": ".o.",
		"x = 1; lock m { } s = y;":      ".o.o",
		"x = 1; r = p; r = s; s = y;":   ".oooooo",
	} {
		if got := marks(open(t, beside(t, s), 0)); got[:len(want)] != want {
			t.Errorf("%q: %s, not %s", s, got, want)
		}
	}
	u := unit(t, "shared x, y; thread a { while (y) { x = 1; } } thread b { y = x; }")
	for _, x := range []struct {
		fences []int
		want   string
	}{
		{nil, "oooo"},
		{[]int{0}, "...."},
		{[]int{1}, "o..."},
		{[]int{2}, "oo.o"}, // ahead of the store: what comes back to it has waited
		{[]int{3}, "ooo."},
		{[]int{2, 3}, "oo.."},
	} {
		if s := marks(open(t, u, 0, x.fences...)); s != x.want {
			t.Error(x.fences, s, "not", x.want)
		}
	}
	// A drain that a way comes to ends it, though it might come back to it.
	u = beside(t, "while (1) { x = 1; print 1; r = y; }")
	if s := marks(open(t, u, 0))[:5]; s != "..o.." {
		t.Error(s)
	}
}

// chain is a unit whose first thread has nodes of these kinds, one behind the other, all of one racy variable, and an end.
func chain(kinds ...api.NodeKind) api.Unit {
	g := api.Graph{Name: "a", Slots: 1}
	for i, kind := range kinds {
		g.Nodes = append(g.Nodes, api.Node{Kind: kind, Next: i + 1})
	}
	g.Nodes = append(g.Nodes, api.Node{Kind: api.NodeEnd})
	h := api.Graph{Name: "b", Slots: 1, Nodes: []api.Node{{Kind: api.NodeLoad, Next: 1}, {Kind: api.NodeEnd}}}
	return api.Unit{Shared: []api.Decl{{Name: "x"}}, Graphs: []api.Graph{g, h}}
}

func times(kind api.NodeKind, n int) []api.NodeKind { return slices.Repeat([]api.NodeKind{kind}, n) }

// 11.2: pairs by rising From, then To; as many as there may be, and one more.
func TestPairs(t *testing.T) {
	u := beside(t, "while (1) { y = 1; if (x) { z = 1; r = z; } r = x; }")
	if s := fmt.Sprint(pairs(t, u, 0)); s != "[{1 2} {1 5} {1 7} {4 2} {4 5} {4 7}]" {
		t.Error(s)
	}
	const side = 256
	full := append(times(api.NodeStore, side), times(api.NodeLoad, side)...)
	u = chain(full...)
	l := pairs(t, u, 0)
	if len(l) != api.MaxStates {
		t.Fatal(len(l))
	}
	for i, x := range l {
		if x != (api.Delay{From: i / side, To: side + i%side}) {
			t.Fatal(i, x)
		}
	}
	for _, more := range [][]api.NodeKind{
		append(slices.Clone(full), api.NodePrint, api.NodeStore, api.NodeLoad),
		append([]api.NodeKind{api.NodeStore, api.NodeLoad, api.NodePrint}, full...),
		append(slices.Clone(full), api.NodeLoad),
		append(times(api.NodeStore, 2000), times(api.NodeLoad, 2000)...),
	} {
		u := chain(more...)
		if l, why := delay.Pairs(u, 0); l != nil || why != api.ErrMany {
			t.Error(len(l), why)
		}
		if n := len(loads(t, u, 0)); n != len(slices.DeleteFunc(slices.Clone(more), func(k api.NodeKind) bool { return k != api.NodeLoad })) {
			t.Error(n)
		}
		if safe(t, u, nil, nil) {
			t.Error("safe")
		}
	}
}

// 11.3: the shortest way, of several that by the least nodes; none from what is no open store, to what is no racy load, and where a drain is on each way.
func TestWay(t *testing.T) {
	u := beside(t, "x = 1; if (r) { s = 1; s = 2; } else { s = 3; } if (r) { s = 4; } else { s = 5; } while (r) { print 1; } z = y;")
	s, _ := cfg.Print(u)
	if l := way(t, u, 0, 0, 10); !slices.Equal(l, []int{0, 1, 4, 5, 6, 8, 10}) {
		t.Error(l, s)
	}
	for from := range 12 {
		for to := range 12 {
			if l := way(t, u, 0, from, to); (len(l) > 0) != (from == 0 && to == 10) {
				t.Error(from, to, l)
			}
		}
	}
	u = beside(t, "lock l { x = 1; } while (r) { if (r) { r = y; } else { r = z; } }")
	for _, x := range []struct {
		from, to int
		want     string
	}{
		{1, 5, "[1 2 3 4 5]"}, {2, 5, "[2 3 4 5]"}, {1, 7, "[1 2 3 4 7]"}, {2, 7, "[2 3 4 7]"},
		{1, 1, "[]"}, {0, 5, "[]"}, {3, 5, "[]"}, {5, 7, "[]"}, {7, 7, "[]"}, {2, 8, "[]"}, {1, 2, "[]"},
	} {
		if got := fmt.Sprint(way(t, u, 0, x.from, x.to)); got != x.want {
			t.Error(x, got)
		}
	}
	// By the way back.
	if s := fmt.Sprint(way(t, beside(t, "while (x) { y = 1; }"), 0, 2, 0)); s != "[2 0]" {
		t.Error(s)
	}
	// Else is the lesser number than Next.
	u = chain(api.NodeStore, api.NodeBranch, api.NodeSet, api.NodeSet, api.NodeLoad)
	n := u.Graphs[0].Nodes
	n[1].Next, n[1].Else, n[2].Next = 3, 2, 4
	if s := fmt.Sprint(way(t, u, 0, 0, 4)); s != "[0 1 2 4]" {
		t.Error(s)
	}
	// Where ways part first it counts, not where they have the least of all nodes.
	u = chain(api.NodeStore, api.NodeBranch, api.NodeSet, api.NodeSet, api.NodeSet, api.NodeSet, api.NodeLoad)
	n = u.Graphs[0].Nodes
	n[1].Next, n[1].Else, n[4].Next, n[3].Next, n[5].Next, n[2].Next = 4, 3, 2, 5, 6, 6
	if s := fmt.Sprint(way(t, u, 0, 0, 6)); s != "[0 1 3 5 6]" {
		t.Error(s)
	}
}

// 11.1 to 11.4: what is not reached neither opens nor is open, nor does it make a variable racy.
func TestUnreached(t *testing.T) {
	u := chain(api.NodeStore, api.NodeLoad, api.NodeSet, api.NodeStore, api.NodeLoad)
	n := u.Graphs[0].Nodes
	n[2].Next = 5
	n[3].Next = 1
	n[4].Next = 0
	if s := fmt.Sprint(pairs(t, u, 0), marks(open(t, u, 0)), way(t, u, 0, 3, 1), way(t, u, 0, 0, 4), way(t, u, 0, 0, 1)); s != "[{0 1}].oo..o[] [] [0 1]" {
		t.Error(s)
	}
	n[0] = api.Node{Kind: api.NodeSet, Next: 1}
	if s := fmt.Sprint(pairs(t, u, 0), marks(open(t, u, 0)), loads(t, u, 0), safe(t, u, nil, nil)); s != "[]......[] true" {
		t.Error(s)
	}
	n[0] = api.Node{Kind: api.NodeStore, Next: 1}
	u.Graphs[1].Nodes[0] = api.Node{Kind: api.NodeSet, Next: 1}
	u.Graphs[1].Nodes = append(u.Graphs[1].Nodes, api.Node{Kind: api.NodeStore})
	if s := fmt.Sprint(pairs(t, u, 0), marks(open(t, u, 0)), safe(t, u, nil, nil)); s != "[]......true" {
		t.Error(s)
	}
}

// 11.4, P1: units of no threads, and of as many as there may be.
func TestSafe(t *testing.T) {
	if !safe(t, api.Unit{}) || !safe(t, unit(t, "thread a { }"), nil) {
		t.Error("nothing is not safe")
	}
	s := "shared x, y;"
	for i := range api.MaxThreads {
		s += fmt.Sprint(" thread t", i, " { x = 1; print y; y = x; }")
	}
	u := unit(t, s)
	all := slices.Repeat([][]int{{1}}, api.MaxThreads)
	if !safe(t, u, all...) {
		t.Error("not safe")
	}
	for i := range all {
		l := slices.Clone(all)
		for _, fences := range [][]int{nil, {0}, {2}, {0, 2, 3, 4, 5}} {
			l[i] = fences
			if safe(t, u, l...) {
				t.Error(l)
			}
		}
	}
}

// refused holds that all calls of a thread have an error, and answer nothing beside it.
func refused(t *testing.T, u api.Unit, thread int, fences []int, want api.Errno) {
	t.Helper()
	if l, why := delay.Open(u, thread, fences); l != nil || why != want {
		t.Errorf("Open of %d, %v: %v, error %d", thread, fences, l, why)
	}
	if l, why := delay.Loads(u, thread, fences); l != nil || why != want {
		t.Errorf("Loads of %d, %v: %v, error %d", thread, fences, l, why)
	}
	if want == api.ErrFence {
		return
	}
	if l, why := delay.Pairs(u, thread); l != nil || why != want {
		t.Errorf("Pairs of %d: %v, error %d", thread, l, why)
	}
	for _, n := range []int{-1, 0, 99} {
		noWay(t, u, thread, n, n, want)
	}
}

func noWay(t *testing.T, u api.Unit, thread, from, to int, want api.Errno) {
	t.Helper()
	if l, is, why := delay.Way(u, thread, from, to); l != nil || is || why != want {
		t.Errorf("Way of %d, %d to %d: %v, %v, error %d", thread, from, to, l, is, why)
	}
}

func unsafe(t *testing.T, u api.Unit, fences [][]int, want api.Errno) {
	t.Helper()
	if is, why := delay.Safe(u, fences); is || why != want {
		t.Errorf("Safe with %v: %v, error %d", fences, is, why)
	}
}

// 11.1 to 11.4, P1, P2: units that may not be; threads, nodes and fences that are none; which error comes first.
func TestRefused(t *testing.T) {
	const text = "shared x, y; lock l; thread a { x = 1; print y; } thread b { lock l { y = 1; } print x; }"
	wrong := []int{math.MinInt, -1, 2, math.MaxInt}
	bad := [][]int{{-1}, {4}, {0, 0}, {1, 0}, {0, 1, 2, 3, 4}, {math.MinInt}, {math.MaxInt}, {0, math.MinInt}, {1, 2, 2}}
	for _, spoil := range []func(u *api.Unit){
		func(u *api.Unit) { u.Shared[1].Name = "x" },
		func(u *api.Unit) { u.Locks[0].Word = 1 },
		func(u *api.Unit) { u.Graphs = append(u.Graphs, api.Graph{Name: "c"}) },
		func(u *api.Unit) { u.Graphs[0].Nodes = nil },
		func(u *api.Unit) { u.Graphs[0].Nodes[0].Thing = 2 },
		func(u *api.Unit) { u.Graphs[0].Nodes[0].Next = 99 },
		func(u *api.Unit) { u.Graphs[1].Nodes[0].Kind = api.NodeCount },
		func(u *api.Unit) { u.Graphs[1].Nodes[0].Next = 3 },
	} {
		u := unit(t, text)
		spoil(&u)
		for _, n := range append(wrong, 0, 1) {
			refused(t, u, n, nil, api.ErrGraph)
			refused(t, u, n, []int{n}, api.ErrGraph)
		}
		unsafe(t, u, make([][]int, 2), api.ErrGraph)
		unsafe(t, u, [][]int{{-1}}, api.ErrGraph)
	}
	u := unit(t, text)
	for _, n := range wrong {
		refused(t, u, n, nil, api.ErrRange)
		refused(t, u, n, []int{-1}, api.ErrRange)
	}
	refused(t, api.Unit{}, 0, nil, api.ErrRange)
	for _, l := range bad {
		refused(t, u, 0, l, api.ErrFence)
		unsafe(t, u, [][]int{l, {4}}, api.ErrFence)
		unsafe(t, u, [][]int{nil, l, nil}, api.ErrFence)
		unsafe(t, u, [][]int{{0}, append(slices.Clone(l), l...)}, api.ErrFence)
	}
	refused(t, u, 1, []int{6}, api.ErrFence)
	for _, l := range [][][]int{nil, {nil}, {nil, nil, nil}, {nil, {6}}, {{1}, {6}}, {{4}, nil}} {
		unsafe(t, u, l, api.ErrFence)
	}
	unsafe(t, api.Unit{}, [][]int{nil}, api.ErrFence)
	for _, n := range []int{math.MinInt, -1, 4, math.MaxInt} {
		for _, other := range []int{n, 0, 1} {
			noWay(t, u, 0, n, other, api.ErrRange)
			noWay(t, u, 0, other, n, api.ErrRange)
		}
	}
	noWay(t, u, 1, 0, 6, api.ErrRange)
}
