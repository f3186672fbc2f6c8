package dead_test

import (
	"fmt"
	"math"
	"strings"
	"testing"

	"stile/api"
	"stile/cfg"
	"stile/dead"
	"stile/fold"
	"stile/parse"
)

func unit(t *testing.T, s string) api.Unit {
	t.Helper()
	p, why, f := parse.Parse(s)
	if why != api.OK {
		t.Fatalf("Parse(%.300q): error %d, %v", s, why, f)
	}
	u, why := cfg.Lower(p)
	if why != api.OK {
		t.Fatalf("Lower of %.300q: error %d", s, why)
	}
	return u
}

// beside is a unit whose first thread is told; x and y are racy, g and h are guarded by l, o is another thread's, p and q are the first thread's alone (if it touches them).
func beside(t *testing.T, s string) api.Unit {
	t.Helper()
	return unit(t, `shared x, y, g, h, o, p, q; lock l, m;
		thread a { local r, s; `+s+` }
		thread b { x = y; lock l { g = h; } o = 1; }
		thread c { y = x; lock l { g = h; } }`)
}

func live(t *testing.T, u api.Unit, thread int) [][]bool {
	t.Helper()
	l, why := dead.Live(u, thread)
	if why != api.OK {
		t.Fatal("Live: error", why)
	}
	return l
}

func waits(t *testing.T, u api.Unit, thread int) [][]bool {
	t.Helper()
	l, why := dead.Waits(u, thread)
	if why != api.OK {
		t.Fatal("Waits: error", why)
	}
	return l
}

func idle(t *testing.T, u api.Unit, thread int) []bool {
	t.Helper()
	l, why := dead.Idle(u, thread)
	if why != api.OK {
		t.Fatal("Idle: error", why)
	}
	return l
}

func once(t *testing.T, u api.Unit) api.Unit {
	t.Helper()
	v, why := dead.Once(u)
	if why != api.OK {
		t.Fatal("Once: error", why)
	}
	return v
}

func sweep(t *testing.T, u api.Unit) api.Unit {
	t.Helper()
	v, why := dead.Sweep(u)
	if why != api.OK {
		t.Fatal("Sweep: error", why)
	}
	return v
}

// signs are yes and no, a byte each; list, the places of yes.
func signs(l []bool) string {
	s := ""
	for _, is := range l {
		if is {
			s += "y"
		} else {
			s += "-"
		}
	}
	return s
}

func lines(l [][]bool) string {
	var s []string
	for _, is := range l {
		s = append(s, signs(is))
	}
	return strings.Join(s, " ")
}

// text is a thread's nodes, one behind another, without links to what is next.
func text(t *testing.T, u api.Unit, thread int) string {
	t.Helper()
	var l []string
	for node := range u.Graphs[thread].Nodes {
		s := cfg.Show(u, thread, node)
		if s == "" {
			t.Fatal("a unit that is not right:", u)
		}
		l = append(l, strings.TrimSuffix(s, fmt.Sprint(" -> ", node+1)))
	}
	return strings.Join(l, "; ")
}

// 14.1: where slots are live.
func TestLive(t *testing.T) {
	for s, want := range map[string]string{
		"":                                    "--",
		"r = 1; r = 2; print r;":              "-- -- y- --",
		"print r; r = 1; print r;":            "y- -- y- --",
		"r = s; print r;":                     "-y y- --",
		"r = r + s; print r;":                 "yy- --y y-- ---", // s2 = s0 + s1; s0 = s2; print s0
		"r = -s; print r;":                    "-y- --y y-- ---",
		"r = x; s = r;":                       "--- --y y-- ---", // a set that is not read reads all the same
		"x = r; p = s;":                       "yy -y --",
		"r = swap(x, s); print r;":            "-y y- --",
		"r = swap(x, r);":                     "y- --",
		"if (r) { print s; } else { s = 1; }": "yy -y -- --",
		"while (r) { s = 1; } print s;":       "yy y- -y --",
		"while (r) { print s; r = s; }":       "yy -y -y --",
		"s = 1; while (1) { r = s; }":         "-- -y -y --",
		"lock l { g = r; } print s;":          "yy yy -y -y --",
		"r = 1; lock l { skip; } print r;":    "-- y- y- y- --",
	} {
		u := beside(t, s)
		if got := lines(live(t, u, 0)); got != want {
			t.Errorf("%q: %s, not %s", s, got, want)
		}
	}
	u := made(
		api.Node{Kind: api.NodeEnd},
		api.Node{Kind: api.NodePrint, A: slot(1), Next: 0},
		api.Node{Kind: api.NodeSet, Slot: 1, A: slot(2), Next: 1},
		api.Node{Kind: api.NodeSet, Op: api.OpMul, A: slot(1), B: slot(1), Next: 2})
	if got := lines(live(t, u, 0)); got != "--- -y- --y -yy" {
		t.Error(got) // of nodes that are not reached, too
	}
	if got := lines(live(t, unit(t, "thread a { print 1; } thread b { local r; print r; }"), 0)); got != " " {
		t.Errorf("%q", got)
	}
}

// 14.1: where own variables wait. Of each node: p, q, and whether any other one does.
func TestWaits(t *testing.T) {
	for s, want := range map[string]string{
		"":                                         "--",
		"x = 1; lock l { g = 1; }":                 "-- -- -- -- --",
		"p = 1;":                                   "-- p-",
		"p = 1; p = 2;":                            "-- -- p-",
		"p = 1; r = p; s = r; p = 2;":              "-- p- -- -- -- p-",
		"p = 1; r = swap(p, 2); p = 3;":            "-- p- -- p-",
		"p = 1; lock l { } p = 2;":                 "-- p- -- -- p-",
		"lock l { p = 1; } p = 2;":                 "p- -- -- -- p-",
		"p = 1; print 1; p = 2;":                   "-- -- -- p-",
		"p = 1; x = 1; r = x; p = 2; q = p;":       "-- -- -- -- -- p- p- pq",
		"if (r) { p = 1; } else { r = p; } p = 2;": "p- -- p- -- -- p-",
		"if (r) { p = 1; }":                        "p- -- p-",
		"while (r) { p = 1; } p = 2;":              "-- -- -- p-",
		"while (1) { p = 1; p = 2; }":              "p- -- -- p-", // the end lies behind it, though none comes to it
	} {
		u := beside(t, s)
		var l []string
		for _, is := range waits(t, u, 0) {
			own := strings.NewReplacer("yy", "pq", "y-", "p-", "-y", "-q").Replace(signs(is[5:]))
			if signs(is[:5]) != "-----" {
				own += "!"
			}
			l = append(l, own)
		}
		if got := strings.Join(l, " "); got != want {
			t.Errorf("%q: %s, not %s", s, got, want)
		}
	}
	u := unit(t, "shared p, o; thread a { p = 1; } thread b { o = 1; o = 2; }")
	if got := lines(waits(t, u, 0)) + ", " + lines(waits(t, u, 1)); got != "-- y-, -- -- -y" {
		t.Error(got)
	}
	// A variable that none of the reached nodes touches is nobody's own.
	u = made(api.Node{Kind: api.NodePrint, Next: 2}, api.Node{Kind: api.NodeLoad, Next: 2}, api.Node{Kind: api.NodeEnd})
	if got := lines(waits(t, u, 0)); got != "- - -" {
		t.Error(got)
	}
	u.Graphs[0].Nodes[0].Next = 1
	if got := lines(waits(t, u, 0)); got != "y y y" {
		t.Error(got)
	}
	u.Graphs[0].Nodes[2] = api.Node{Kind: api.NodePrint, Next: 0}
	if got := lines(waits(t, u, 0)); got != "y y y" {
		t.Error(got) // the thread has no end: loads alone ask for it
	}
	u.Graphs[0].Nodes[1] = api.Node{Kind: api.NodeStore, Next: 2}
	if got := lines(waits(t, u, 0)); got != "- - -" {
		t.Error(got)
	}
}

// made is a unit of one thread of three slots, with a variable p, whose nodes are told.
func made(nodes ...api.Node) api.Unit {
	for i := range nodes {
		nodes[i].Origin = 10 + i
	}
	return api.Unit{Shared: []api.Decl{{Name: "p"}}, Graphs: []api.Graph{{Name: "a", Slots: 3, Nodes: nodes}}}
}

func word(w int64) api.Value { return api.Value{Word: w} }

func slot(n int) api.Value { return api.Value{IsSlot: true, Slot: n} }

// 14.2: the chapter's examples, and what else is idle, at one time and in the end.
func TestIdle(t *testing.T) {
	for s, want := range map[string][2]string{
		"": {"-", "end"},
		// Example 1.
		"r = 1; r = 2; print r;": {"y---", "s0 = 2; print s0; end"},
		"r = x;":                 {"-y-", "s2 = x; end"},
		"r = p;":                 {"-y-", "end"},
		"lock l { r = g; }":      {"--y--", "lock l; unlock l; end"},
		// Example 2.
		"p = 1; p = 2;":            {"y--", "p = 2; end"},
		"p = 1; lock l { } p = 2;": {"-----", "p = 1; lock l; unlock l; p = 2; end"},
		// Example 3.
		"if (r) { } else { }":     {"y-", "end"},
		"if (r + s) { } else { }": {"-y-", "end"},
		// A copy of a slot into itself.
		"r = r; print r;":            {"y--", "print s0; end"},
		"r = -r; print r;":           {"----", ""},
		"r = s; print r;":            {"---", ""},
		"r = s; s = s; print r - s;": {"-y---", "s0 = s1; s2 = s0 - s1; print s2; end"},
		// Stores: of an own variable, that nobody looks at behind it.
		"x = 1; x = 2;":                       {"---", ""},
		"lock l { g = 1; g = 2; }":            {"-----", ""},
		"p = 1; print p; p = 2;":              {"-----", ""},
		"p = 1; r = swap(p, 2);":              {"---", ""}, // a swap stays
		"p = 1; while (x) { } p = 2;":         {"y----", "s2 = x; branch s2 -> 0 2; p = 2; end"},
		"p = 1; if (x) { r = p; } p = 2;":     {"----y--", "s2 = x; p = 2; end"},
		"p = 1; if (x) { print p; } p = 2;":   {"-------", ""},
		"p = 1; r = p; p = 2;":                {"--y--", "p = 2; end"},
		"p = r + 1; q = p; q = 2; p = 2;":     {"---y---", "q = 2; p = 2; end"},
		"lock l { p = 1; } p = 2;":            {"-y---", "lock l; unlock l; p = 2; end"},
		"while (1) { p = 1; }":                {"---", ""},
		"while (1) { p = 1; p = 2; }":         {"-y--", "branch 1 -> 1 2; p = 2 -> 0; end"},
		"while (1) { r = 5; }":                {"-y-", "branch 1 -> 0 1; end"},
		"print 1; r = 5; s = r; s = s + s;":   {"----y-", "print 1; end"},
		"if (x) { r = 1; } else { s = 1; }":   {"--yy-", "s2 = x; end"},
		"if (p) { r = 1; } else { s = 1; }":   {"--yy-", "end"},
		"if (r) { print 1; } else { s = 1; }": {"--y-", "branch s0 -> 1 2; print 1; end"},
		"while (r) { }":                       {"--", ""},
		"while (r) { s = 1; }":                {"-y-", "branch s0 -> 0 1; end"},
		"r = r + 1; r = r + 1;":               {"---y-", "end"},
		"while (x) { r = r + 1; }":            {"-----", ""}, // what is read for itself alone stays
	} {
		u := beside(t, s)
		if got := signs(idle(t, u, 0)); got != want[0] {
			t.Errorf("%q: idle %s, not %s", s, got, want[0])
		}
		if want[1] == "" {
			want[1] = text(t, u, 0)
		}
		if got := text(t, sweep(t, u), 0); got != want[1] {
			t.Errorf("%q: swept:\n%s, not\n%s", s, got, want[1])
		}
	}
}

// 14.2: graphs that no text makes: rings, nodes that are not reached, where a thread begins, what is left in which order.
func TestOnce(t *testing.T) {
	set := func(slot int, w int64, next int) api.Node {
		return api.Node{Kind: api.NodeSet, Slot: slot, A: word(w), Next: next}
	}
	print := func(w int64, next int) api.Node { return api.Node{Kind: api.NodePrint, A: word(w), Next: next} }
	end := api.Node{Kind: api.NodeEnd}
	for _, x := range []struct {
		u                 api.Unit
		idle, once, swept string
		origins           []int
	}{
		// Example 3.
		{made(set(0, 5, 1), set(0, 6, 0)), "--", "s0 = 5; s0 = 6 -> 0", "", []int{10, 11}},
		{made(set(0, 5, 0)), "-", "s0 = 5 -> 0", "", []int{10}},
		{made(api.Node{Kind: api.NodeBranch, A: slot(0)}), "-", "branch s0 -> 0 0", "", []int{10}},
		// What leads into a ring is idle.
		{made(set(0, 4, 1), set(0, 5, 2), set(0, 6, 1)), "y--", "s0 = 5; s0 = 6 -> 0", "", []int{11, 12}},
		{made(set(0, 4, 2), set(0, 5, 3), set(0, 6, 1), set(0, 7, 1)), "y-y-", "s0 = 5; s0 = 7 -> 0", "", []int{11, 13}},
		// A ring that something visible is in, or something that is needed.
		{made(set(0, 4, 1), print(1, 0)), "y-", "print 1 -> 0", "", []int{11}},
		{made(set(0, 4, 1), api.Node{Kind: api.NodeBranch, A: slot(1), Else: 2}, end), "y--", "branch s1 -> 0 1; end", "", []int{11, 12}},
		// What comes to be needless only when the other is gone is a ring of itself alone then.
		{made(set(0, 4, 1), api.Node{Kind: api.NodeSet, Slot: 1, A: slot(0), Next: 0}), "-y", "s0 = 4 -> 0", "", []int{10}},
		// Not reached: left out, and not idle.
		{made(print(1, 2), print(2, 2), end), "---", "print 1; end", "", []int{10, 12}},
		{made(print(1, 2), api.Node{Kind: api.NodePrint, A: slot(0), Next: 2}, set(0, 1, 3), end), "--y-", "print 1; end", "", []int{10, 13}},
		// The heir of number 0 comes first, the others as they stood.
		{made(set(0, 1, 4), print(2, 2), print(3, 3), end, print(4, 1)), "y----", "print 4; print 2; print 3; end", "", []int{14, 11, 12, 13}},
		{made(set(0, 1, 4), set(0, 1, 5), print(3, 3), end, set(1, 1, 1), print(4, 2)), "yy--y-", "print 4; print 3; end", "", []int{15, 12, 13}},
		{made(print(1, 3), end, print(2, 1), print(3, 2)), "----", "print 1 -> 3; end; print 2 -> 1; print 3 -> 2", "", []int{10, 11, 12, 13}},
		{made(set(0, 1, 3), end, print(2, 1), set(1, 1, 2)), "y--y", "print 2; end", "", []int{12, 11}},
		// Ends do not lead anywhere, though number 0 has another place.
		{made(set(0, 1, 3), end, end, api.Node{Kind: api.NodeBranch, A: slot(1), Next: 1, Else: 2}), "y---", "branch s1 -> 1 2; end; end", "", []int{13, 11, 12}},
		// By and by: a branch whose ways have become one; the second one's heir is one that is moved to the front.
		{made(set(0, 1, 4), print(7, 2), end, set(1, 1, 1), api.Node{Kind: api.NodeBranch, A: slot(0), Next: 1, Else: 3}), "---y-", "s0 = 1 -> 3; print 7; end; branch s0 -> 1 1", "print 7; end", []int{11, 12}},
		{made(print(0, 5), set(0, 1, 4), end, set(1, 1, 2), api.Node{Kind: api.NodeBranch, A: slot(0), Next: 2, Else: 3}, set(2, 1, 1)), "---y-y", "print 0; s0 = 1 -> 3; end; branch s0 -> 2 2", "print 0; end", []int{10, 12}},
	} {
		if got := signs(idle(t, x.u, 0)); got != x.idle {
			t.Error(x.u, "idle", got, "not", x.idle)
		}
		if got := text(t, once(t, x.u), 0); got != x.once {
			t.Error(x.u, "once", got, "not", x.once)
		}
		if x.swept == "" {
			x.swept = x.once
		}
		v := sweep(t, x.u)
		if got := text(t, v, 0); got != x.swept {
			t.Error(x.u, "swept", got, "not", x.swept)
		}
		var origins []int
		for _, n := range v.Graphs[0].Nodes {
			origins = append(origins, n.Origin)
		}
		if fmt.Sprint(origins) != fmt.Sprint(x.origins) {
			t.Error(x.u, "origins", origins, "not", x.origins)
		}
	}
}

// 14.2: what one thread leaves out gives variables other classes: from the next time on, whichever thread stands first.
func TestOthers(t *testing.T) {
	const both, second = "lock l; g = 1; g = 2; unlock l; end", "lock l; g = 2; unlock l; end"
	const reads = "{ local r; lock l { r = g; } } "
	for _, x := range []struct{ others, once, swept string }{
		{"thread b { lock l { g = 3; } }", both, both},
		{"thread b " + reads, both, second}, // not before r's set is gone, too
		{"thread b { lock l { if (g) { } } }", both, second},
		{"thread b " + reads + "thread c { lock l { print g; } }", both, both},
		{"thread b " + reads + "thread c { local r; lock l { r = g + g; r = g; r = r; } }", both, second},
		{"thread b { local r; r = g; }", both, both}, // a racy load stays
	} {
		const around, stores = "shared g; lock l; ", "thread a { lock l { g = 1; g = 2; } } "
		for order, s := range []string{around + stores + x.others, around + x.others + stores} {
			u := unit(t, s)
			at := order * (len(u.Graphs) - 1)
			v := once(t, u)
			if got := text(t, v, at); got != x.once {
				t.Errorf("%q, once: %s, not %s", s, got, x.once)
			}
			if got := text(t, sweep(t, u), at); got != x.swept {
				t.Errorf("%q, swept: %s, not %s", s, got, x.swept)
			}
			for range 6 {
				v = once(t, v)
			}
			if !cfg.Same(v, sweep(t, u)) {
				t.Errorf("%q: Sweep is not Once of Once", s)
			}
		}
	}
	// A load that nobody reads is gone at one time: the stores of a thread behind it go at the next one.
	u := unit(t, "shared g; lock l; thread a { lock l { if (g) { } } } thread b { lock l { g = 1; g = 2; } }")
	u.Graphs[0].Nodes[2] = api.Node{Kind: api.NodePrint, Next: 3}
	if got := text(t, once(t, u), 0) + ", " + text(t, once(t, u), 1); got != "lock l; print 0; unlock l; end, "+both {
		t.Error(got)
	}
	if got := text(t, once(t, once(t, u)), 1); got != second {
		t.Error(got)
	}
}

// The document's sixth example: behind both passes the first store is gone, and 2 is printed.
func TestPasses(t *testing.T) {
	u, times, why := fold.Fix(unit(t, "shared p; thread a { p = 1; p = 2; print p; }"))
	if why != api.OK || times != 1 {
		t.Error(times, why)
	}
	if got := text(t, sweep(t, u), 0); got != "p = 2; print 2; end" {
		t.Error(got)
	}
}

// refused holds that all calls have an error, and answer nothing beside it.
func refused(t *testing.T, u api.Unit, thread int, want api.Errno) {
	t.Helper()
	if l, why := dead.Live(u, thread); l != nil || why != want {
		t.Errorf("Live of %d: %v, error %d", thread, l, why)
	}
	if l, why := dead.Waits(u, thread); l != nil || why != want {
		t.Errorf("Waits of %d: %v, error %d", thread, l, why)
	}
	if l, why := dead.Idle(u, thread); l != nil || why != want {
		t.Errorf("Idle of %d: %v, error %d", thread, l, why)
	}
	if want != api.ErrGraph {
		return
	}
	if v, why := dead.Once(u); !cfg.Same(v, api.Unit{}) || why != want {
		t.Errorf("Once: %v, error %d", v, why)
	}
	if v, why := dead.Sweep(u); !cfg.Same(v, api.Unit{}) || why != want {
		t.Errorf("Sweep: %v, error %d", v, why)
	}
}

// 14.1, 14.2, P1, P2: units that may not be; threads that are none; which error comes first.
func TestRefused(t *testing.T) {
	const text = "shared x; lock l; thread a { local r; r = 1; print r; } thread b { lock l { x = 1; } }"
	threads := []int{math.MinInt, -1, 2, 99, math.MaxInt}
	for _, spoil := range []func(u *api.Unit){
		func(u *api.Unit) { u.Shared[0].Name = "l" },
		func(u *api.Unit) { u.Graphs = append(u.Graphs, api.Graph{Name: "c"}) },
		func(u *api.Unit) { u.Graphs[0].Nodes = nil },
		func(u *api.Unit) { u.Graphs[0].Nodes[0].Slot = 1 },
		func(u *api.Unit) { u.Graphs[0].Nodes[1].A.Slot = -1 },
		func(u *api.Unit) { u.Graphs[0].Nodes[0].Op = api.OpCount },
		func(u *api.Unit) { u.Graphs[0].Nodes[0].Next = 99 },
		func(u *api.Unit) { u.Graphs[1].Nodes[1].Thing = 1 },
		func(u *api.Unit) { u.Graphs[1].Nodes[0].Kind = api.NodeCount },
		func(u *api.Unit) { u.Graphs[1].Nodes[0].Next = 3 },
	} {
		u := unit(t, text)
		spoil(&u)
		for _, thread := range append(threads, 0, 1) {
			refused(t, u, thread, api.ErrGraph)
		}
	}
	u := unit(t, text)
	for _, thread := range threads {
		refused(t, u, thread, api.ErrRange)
	}
	refused(t, api.Unit{}, 0, api.ErrRange)
	if v := sweep(t, api.Unit{}); !cfg.Same(v, api.Unit{}) || !cfg.Same(once(t, api.Unit{}), v) {
		t.Error(v)
	}
}
