package fold_test

import (
	"fmt"
	"math"
	"slices"
	"strings"
	"testing"

	"stile/api"
	"stile/cfg"
	"stile/fold"
	"stile/parse"
	"stile/words"
)

func unit(t *testing.T, s string) api.Unit {
	t.Helper()
	p, why, f := parse.Parse(s)
	if why != api.OK {
		t.Fatalf("Parse(%.300q): error %d, %v", s, why, f)
	}
	u, why := cfg.Lower(p)
	if why != api.OK {
		t.Fatalf("Lower of %.300q: error %d", s, why)
	}
	return u
}

// beside is a unit whose first thread is told; x and y are racy, g and h are guarded by l, p and q the first thread's alone.
func beside(t *testing.T, s string) api.Unit {
	t.Helper()
	return unit(t, `shared x, y, g, h, p, q; lock l, m;
		thread a { local r, s; `+s+` }
		thread b { x = y; lock l { g = h; } }
		thread c { y = x; lock l { g = h; } }`)
}

func folded(t *testing.T, u api.Unit) api.Unit {
	t.Helper()
	v, why := fold.Fold(u)
	if why != api.OK {
		t.Fatal("Fold: error", why)
	}
	return v
}

func fixed(t *testing.T, u api.Unit) (api.Unit, int) {
	t.Helper()
	v, times, why := fold.Fix(u)
	if why != api.OK {
		t.Fatal("Fix: error", why)
	}
	return v, times
}

// known is the word that a slot is known to have, as text; ? of none.
func known(t *testing.T, u api.Unit, thread, node, slot int) string {
	t.Helper()
	w, is, why := fold.Known(u, thread, node, slot)
	if why != api.OK || !is && w != 0 {
		t.Errorf("Known of %d, %d, %d: %d, %v, error %d", thread, node, slot, w, is, why)
	}
	if !is {
		return "?"
	}
	return words.Print(w)
}

// text is the first thread's nodes, one behind another, without links to what is next.
func text(t *testing.T, u api.Unit) string {
	t.Helper()
	var l []string
	for node := range u.Graphs[0].Nodes {
		s := cfg.Show(u, 0, node)
		if s == "" {
			t.Fatal("a unit that is not right:", u)
		}
		l = append(l, strings.TrimSuffix(s, fmt.Sprint(" -> ", node+1)))
	}
	return strings.Join(l, "; ")
}

// 13.1: the chapter's examples, and what else is known behind nodes of each kind. Slots are 0 and 1 of r and s.
func TestFold(t *testing.T) {
	for s, want := range map[string]string{
		"":                    "end",
		"r = 2 + 3; print r;": "s2 = 5; s0 = 5; print 5; end", // example 1, in Fold
		"r = x; print r + 0;": "s2 = x; s0 = s2; s3 = s2; print s2; end",
		// Example 2.
		"if (1) { print 1; } else { print 2; }": "branch 1 -> 1 1; print 1 -> 3; print 2; end",
		"if (0) { print 1; } else { print 2; }": "branch 0 -> 2 2; print 1 -> 3; print 2; end",
		"while (r) { r = 0; }":                  "branch s0 -> 1 2; s0 = 0 -> 0; end",
		"r = 0; while (r) { r = 0; }":           "s0 = 0; branch s0 -> 2 3; s0 = 0 -> 1; end",
		// Example 3.
		"p = 4; r = p;":                       "p = 4; s2 = 4; s0 = 4; end",
		"lock l { g = 4; } lock l { r = g; }": "lock l; g = 4; unlock l; lock l; s2 = g; s0 = s2; unlock l; end",
		"x = 4; r = x;":                       "x = 4; s2 = x; s0 = s2; end",
		"r = x; s = x;":                       "s2 = x; s0 = s2; s3 = x; s1 = s3; end",
		// Example 4.
		"if (r) { print 1; } else { print r; }": "branch s0 -> 1 2; print 1 -> 3; print 0; end",
		// Words are put in wherever they are used; of one operator and of two.
		"r = 5; x = r;":                 "s0 = 5; x = 5; end",
		"r = 5; s = swap(x, r);":        "s0 = 5; s1 = swap x 5; end",
		"r = 5; print -r; print !r;":    "s0 = 5; s2 = -5; print -5; s3 = 0; print 0; end",
		"r = 0; if (r) { print 1; }":    "s0 = 0; branch 0 -> 3 3; print 1; end",
		"r = 7; if (r) { print 1; }":    "s0 = 7; branch 7 -> 2 2; print 1; end",
		"r = 5; s = 7; print r * s;":    "s0 = 5; s1 = 7; s2 = 35; print 35; end",
		"r = 5; s = r; print s;":        "s0 = 5; s1 = 5; print 5; end",
		"r = x; print -r; print r - 1;": "s2 = x; s0 = s2; s3 = - s2; print s3; s4 = s2 - 1; print s4; end",
		// What is known of a slot, or by it, ends where it is set.
		"r = 5; r = x; print r;":          "s0 = 5; s2 = x; s0 = s2; print s2; end",
		"r = 5; r = swap(x, r); print r;": "s0 = 5; s0 = swap x 5; print s0; end",
		"r = s; s = 3; print r; print s;": "s0 = s1; s1 = 3; print s0; print 3; end",
		"r = s; s = swap(x, 1); print r;": "s0 = s1; s1 = swap x 1; print s0; end",
		"r = s; print r; r = 3; print s;": "s0 = s1; print s1; s0 = 3; print s1; end",
		"r = r; print r;":                 "s0 = s0; print s0; end",
		"r = s; s = r; print s; print r;": "s0 = s1; s1 = s1; print s1; print s0; end", // to itself: no more is known
		"r = 3; r = r; print r;":          "s0 = 3; s0 = 3; print 3; end",
		"r = s; r = r; print r;":          "s0 = s1; s0 = s1; print s1; end",
		// Private variables: behind stores, loads and swaps, over locks.
		"r = p; s = p;":                   "s2 = p; s0 = s2; s3 = s2; s1 = s2; end",
		"p = r; s = p;":                   "p = s0; s2 = s0; s1 = s0; end",
		"p = r; r = 1; s = p;":            "p = s0; s0 = 1; s2 = p; s1 = s2; end",
		"p = 1; p = 2; s = p;":            "p = 1; p = 2; s2 = 2; s1 = 2; end",
		"p = 1; q = 2; s = p + q;":        "p = 1; q = 2; s2 = 1; s3 = 2; s4 = 3; s1 = 3; end",
		"p = 1; x = 2; s = p;":            "p = 1; x = 2; s2 = 1; s1 = 1; end",
		"r = swap(p, 3); s = p;":          "s0 = swap p 3; s2 = 3; s1 = 3; end",
		"p = 1; r = swap(p, s); s = p;":   "p = 1; s0 = swap p s1; s2 = s1; s1 = s1; end",
		"p = 1; r = swap(p, r); s = p;":   "p = 1; s0 = swap p s0; s2 = p; s1 = s2; end", // what p had, r has now: nothing is known of p
		"r = 6; r = swap(p, r); s = p;":   "s0 = 6; s0 = swap p 6; s2 = 6; s1 = 6; end",
		"p = 1; lock l { s = p; } r = p;": "p = 1; lock l; s2 = 1; s1 = 1; unlock l; s3 = 1; s0 = 1; end",
		"p = r; lock l { } s = r; q = p;": "p = s0; lock l; unlock l; s1 = s0; s2 = s0; q = s0; end",
		// Guarded ones: up to where any lock is taken or given back.
		"lock l { g = 4; r = g; }":                       "lock l; g = 4; s2 = 4; s0 = 4; unlock l; end",
		"lock l { r = g; s = g; h = s; r = h; }":         "lock l; s2 = g; s0 = s2; s3 = s2; s1 = s2; h = s2; s4 = s2; s0 = s2; unlock l; end",
		"lock l { r = swap(g, 3); r = g; }":              "lock l; s0 = swap g 3; s2 = 3; s0 = 3; unlock l; end",
		"lock l { g = 4; lock m { r = g; } }":            "lock l; g = 4; lock m; s2 = g; s0 = s2; unlock m; unlock l; end",
		"lock l { lock m { g = 4; } r = g; }":            "lock l; lock m; g = 4; unlock m; s2 = g; s0 = s2; unlock l; end",
		"lock l { g = 4; lock m { } p = 1; r = p + g; }": "lock l; g = 4; lock m; unlock m; p = 1; s2 = 1; s3 = g; s4 = 1 + s3; s0 = s4; unlock l; end",
		// Along a branch: slots, not what is the same as they.
		"s = r; if (r) { } else { print s; }": "s1 = s0; branch s0 -> 3 2; print s0; end",
		"s = r; if (s) { } else { print r; }": "s1 = s0; branch s0 -> 3 2; print 0; end",
		"if (r) { print r; }":                 "branch s0 -> 1 2; print s0; end",
		"if (r) { p = 1; } else { p = 1; } r = p; if (x) { p = 2; r = p; } else { r = p; }": "branch s0 -> 1 2; p = 1 -> 3; p = 1; s2 = p; s0 = s2; s3 = x; branch s3 -> 7 10; p = 2; s4 = 2; s0 = 2 -> 12; s5 = s2; s0 = s2; end",
		"r = 1; if (x) { r = 2; print r; } else { print r; }":                               "s0 = 1; s2 = x; branch s2 -> 3 5; s0 = 2; print 2 -> 6; print 1; end",
		"p = r; if (x) { r = 1; s = p; } else { s = p; }":                                   "p = s0; s2 = x; branch s2 -> 3 6; s0 = 1; s3 = p; s1 = s3 -> 8; s4 = s0; s1 = s0; end",
		"r = 1; if (s) { } print r;":                                                        "s0 = 1; branch s1 -> 2 2; print 1; end", // one edge
		"if (s) { } print s;":                                                               "branch s1 -> 1 1; print s1; end",
		"r = 1; if (s) { print 2; } print r;":                                               "s0 = 1; branch s1 -> 2 3; print 2; print s0; end",
	} {
		if got := text(t, folded(t, beside(t, s))); got != want {
			t.Errorf("%q:\n%s, not\n%s", s, got, want)
		}
	}
}

// rules are what the chapter says of an operator of two where one of the two is a slot x.
const rules = `x + 0, 0 + x, x - 0, x * 1, 1 * x, x / 1, x << 0, x >> 0, x ^ 0, 0 ^ x, x | 0, 0 | x: x
x * 0, 0 * x, x & 0, 0 & x, x % 1: 0
x & x, x | x: x
x - x, x ^ x, x != x, x < x, x > x: 0
x == x, x <= x, x >= x: 1`

// ruled is what the rules make of an expression; "", if none of them is of it.
func ruled(s string) string {
	for line := range strings.SplitSeq(rules, "\n") {
		forms, comes, _ := strings.Cut(line, ": ")
		if slices.Contains(strings.Split(forms, ", "), s) {
			return comes
		}
	}
	return ""
}

// set is a NodeSet of two Values, alone in a unit, folded.
func set(t *testing.T, op api.Op, a, b api.Value) api.Node {
	t.Helper()
	u := api.Unit{Graphs: []api.Graph{{Name: "a", Slots: 3, Nodes: []api.Node{
		{Kind: api.NodeSet, Op: op, Slot: 2, A: a, B: b, Next: 1, Origin: 7}, {Kind: api.NodeEnd}}}}}
	n := folded(t, u).Graphs[0].Nodes[0]
	if n.Kind != api.NodeSet || n.Slot != 2 || n.Next != 1 || n.Origin != 7 {
		t.Error(n)
	}
	return n
}

// 13.1: operators of two, of slots and words.
func TestRules(t *testing.T) {
	x, y := api.Value{IsSlot: true}, api.Value{IsSlot: true, Slot: 1}
	some := []int64{0, 1, 2, -1, 63, 64, math.MinInt64, math.MaxInt64}
	for op := api.OpAdd; op <= api.OpLeast; op++ {
		sign := " " + words.Show(op) + " "
		check := func(a, b api.Value, comes string) {
			want := api.Node{Op: op, A: a, B: b}
			switch comes {
			case "x":
				want = api.Node{A: x}
			case "0", "1":
				want = api.Node{A: api.Value{Word: int64(comes[0] - '0')}}
			}
			if n := set(t, op, a, b); n.Op != want.Op || n.A != want.A || n.B != want.B {
				t.Error(a, sign, b, "is", n)
			}
		}
		for _, w := range some {
			check(x, api.Value{Word: w}, ruled("x"+sign+words.Print(w)))
			check(api.Value{Word: w}, x, ruled(words.Print(w)+sign+"x"))
			for _, v := range some {
				want, _ := words.Do(op, w, v)
				if n := set(t, op, api.Value{Word: w}, api.Value{Word: v}); n.Op != api.OpNone || n.A != (api.Value{Word: want}) || n.B != (api.Value{}) {
					t.Error(w, sign, v, "is", n)
				}
			}
		}
		check(x, x, ruled("x"+sign+"x"))
		check(x, y, "")
	}
}

// 13.1: operators of one.
func TestOne(t *testing.T) {
	for _, op := range []api.Op{api.OpMinus, api.OpNot} {
		for _, w := range []int64{0, 1, -1, 7, math.MinInt64} {
			want, _ := words.One(op, w)
			if n := set(t, op, api.Value{Word: w}, api.Value{}); n.Op != api.OpNone || n.A != (api.Value{Word: want}) {
				t.Error(op, w, n)
			}
		}
		if n := set(t, op, api.Value{IsSlot: true}, api.Value{}); n.Op != op || n.A != (api.Value{IsSlot: true}) {
			t.Error(op, n)
		}
	}
}

// graph is a unit of one thread of three slots, with a private variable p, whose nodes are told.
func graph(nodes ...api.Node) api.Unit {
	for i := range nodes {
		nodes[i].Origin = 10 + i
	}
	return api.Unit{Shared: []api.Decl{{Name: "p"}}, Graphs: []api.Graph{{Name: "a", Slots: 3, Nodes: nodes}}}
}

func word(w int64) api.Value { return api.Value{Word: w} }

func slot(n int) api.Value { return api.Value{IsSlot: true, Slot: n} }

// 13.1: graphs that no text makes: which edges count.
func TestEdges(t *testing.T) {
	for _, x := range []struct {
		u    api.Unit
		want string
	}{
		// One edge goes into number 0: nothing is known there all the same.
		{graph(api.Node{Kind: api.NodePrint, A: slot(0), Next: 1}, api.Node{Kind: api.NodeSet, A: word(3)}), "print s0; s0 = 3 -> 0"},
		{graph(api.Node{Kind: api.NodeSet, A: word(3), Next: 1}, api.Node{Kind: api.NodePrint, A: slot(0), Next: 0}), "s0 = 3; print 3 -> 0"},
		// Edges from nodes that are not reached do not count; such nodes stay as they are.
		{graph(api.Node{Kind: api.NodeSet, A: word(3), Next: 2}, api.Node{Kind: api.NodeSet, Op: api.OpAdd, A: word(3), B: word(4), Next: 2},
			api.Node{Kind: api.NodePrint, A: slot(0), Next: 3}, api.Node{Kind: api.NodeEnd}), "s0 = 3 -> 2; s0 = 3 + 4; print 3; end"},
		{graph(api.Node{Kind: api.NodeEnd}, api.Node{Kind: api.NodeSet, A: word(3), Next: 2}, api.Node{Kind: api.NodePrint, A: slot(0), Next: 1},
			api.Node{Kind: api.NodeBranch, A: word(1), Next: 0, Else: 1}), "end; s0 = 3; print s0 -> 1; branch 1 -> 0 1"},
		// An edge of a node to itself counts, as each other one.
		{graph(api.Node{Kind: api.NodeSet, A: word(3), Next: 1}, api.Node{Kind: api.NodeBranch, A: slot(0), Next: 1, Else: 2},
			api.Node{Kind: api.NodePrint, A: slot(0), Next: 3}, api.Node{Kind: api.NodeEnd}), "s0 = 3; branch s0 -> 1 2; print 0; end"},
		// Both edges of a branch to one node are one, behind which nothing new is known.
		{graph(api.Node{Kind: api.NodeSet, Slot: 1, A: word(3), Next: 1}, api.Node{Kind: api.NodeBranch, A: slot(0), Next: 2, Else: 2},
			api.Node{Kind: api.NodeSet, Op: api.OpAdd, Slot: 2, A: slot(0), B: slot(1), Next: 3}, api.Node{Kind: api.NodeEnd}), "s1 = 3; branch s0 -> 2 2; s2 = s0 + 3; end"},
		// Both edges of a branch whose word is known lead on, in this Fold.
		{graph(api.Node{Kind: api.NodeBranch, A: word(2), Next: 1, Else: 2}, api.Node{Kind: api.NodeSet, A: word(1), Next: 3},
			api.Node{Kind: api.NodeSet, Op: api.OpMinus, A: word(1), Next: 3}, api.Node{Kind: api.NodePrint, A: slot(0), Next: 4}, api.Node{Kind: api.NodeEnd}),
			"branch 2 -> 1 1; s0 = 1 -> 3; s0 = -1; print s0; end"},
		// What the else-way of a branch brings, stands beside what is known by the slot.
		{graph(api.Node{Kind: api.NodeSet, Slot: 1, A: slot(0), Next: 1}, api.Node{Kind: api.NodeBranch, A: slot(1), Next: 4, Else: 2},
			api.Node{Kind: api.NodePrint, A: slot(1), Next: 3}, api.Node{Kind: api.NodePrint, A: slot(0), Next: 4}, api.Node{Kind: api.NodeEnd}),
			"s1 = s0; branch s0 -> 4 2; print s0; print 0; end"},
	} {
		v := folded(t, x.u)
		if got := text(t, v); got != x.want {
			t.Error(got, "not", x.want)
		}
		for i, n := range v.Graphs[0].Nodes {
			if n.Origin != 10+i {
				t.Error(n)
			}
		}
	}
}

// 13.2: again and again, at most MaxDeep times.
func TestFix(t *testing.T) {
	for s, want := range map[string]struct {
		times int
		text  string
	}{
		"":                                  {0, "end"},
		"r = s; print x;":                   {0, "s0 = s1; s2 = x; print s2; end"},
		"r = 2 + 3; print r;":               {1, "s2 = 5; s0 = 5; print 5; end"},
		"p = 4; r = p; print r;":            {1, "p = 4; s2 = 4; s0 = 4; print 4; end"},
		"r = 1; if (0) { r = 2; } print r;": {2, "s0 = 1; branch 0 -> 3 3; s0 = 2; print 1; end"},
		"r = 1; if (0) { r = 2; } if (r) { s = 3; } else { s = 4; } print s;": {3, "s0 = 1; branch 0 -> 3 3; s0 = 2; branch 1 -> 4 4; s1 = 3 -> 6; s1 = 4; print 3; end"},
		"s = r; if (s) { } else { print s; print r; print s; }":               {2, "s1 = s0; branch s0 -> 5 2; print 0; print 0; print 0; end"},
		"while (0) { x = 1; } while (1) { r = r; } print 1 + 1;":              {1, "branch 0 -> 2 2; x = 1 -> 0; branch 1 -> 3 3; s0 = s0 -> 2; s2 = 2; print 2; end"},
	} {
		u := beside(t, s)
		v, times := fixed(t, u)
		if got := text(t, v); got != want.text || times != want.times {
			t.Errorf("%q: %d times:\n%s, not %d,\n%s", s, times, got, want.times, want.text)
		}
		if w := folded(t, v); !cfg.Same(v, w) { // 13.8
			t.Errorf("%q: not at rest", s)
		}
	}
}

// 13.2, 13.8: just as many times as may be, and more.
func TestFixMost(t *testing.T) {
	for _, x := range []struct {
		folds, times int
		atRest       bool
	}{{2, 2, true}, {api.MaxDeep - 1, api.MaxDeep - 1, true}, {api.MaxDeep, api.MaxDeep, true}, {api.MaxDeep + 1, api.MaxDeep, false}, {api.MaxDeep + 9, api.MaxDeep, false}} {
		u := unit(t, "thread a { local r; r = 1; "+strings.Repeat("if (r) { } else { r = 2; } ", x.folds-1)+"print r; }")
		v, times := fixed(t, u)
		if times != x.times || cfg.Same(v, folded(t, v)) != x.atRest {
			t.Error(x, times)
		}
		for range times {
			w := folded(t, u)
			if cfg.Same(u, w) {
				t.Error(x, "a Fold changes nothing")
			}
			u = w
		}
		if !cfg.Same(u, v) {
			t.Error(x, "Fix is not so many Folds")
		}
	}
}

// 13.3: what slots are known to have, and what is none.
func TestKnown(t *testing.T) {
	u := beside(t, "r = 5; s = r; if (x) { r = p; s = r; } else { p = 3; r = p; } print r;")
	// 0 s0 = 5; 1 s1 = s0; 2 s2 = x; 3 branch s2 -> 4 7; 4 s3 = p; 5 s0 = s3; 6 s1 = s0; 7 p = 3; 8 s4 = p; 9 s0 = s4; 10 print s0; 11 end
	for _, x := range []struct {
		node int
		want string
	}{
		{0, "? ? ? ? ?"}, {1, "5 ? ? ? ?"}, {2, "5 5 ? ? ?"}, {3, "5 5 ? ? ?"}, {4, "5 5 ? ? ?"}, {5, "5 5 ? ? ?"}, {6, "? 5 ? ? ?"},
		{7, "5 5 0 ? ?"}, {8, "5 5 0 ? ?"}, {9, "5 5 0 ? 3"}, {10, "? ? ? ? ?"}, {11, "? ? ? ? ?"},
	} {
		var l []string
		for slot := range 5 {
			l = append(l, known(t, u, 0, x.node, slot))
		}
		if got := strings.Join(l, " "); got != x.want {
			t.Errorf("ahead of %d: %s, not %s", x.node, got, x.want)
		}
	}
	u = unit(t, "thread a { } thread b { local r; r = 1; if (0) { print r; } r = 2; print r; }")
	if s := known(t, u, 1, 1, 0) + known(t, u, 1, 2, 0) + known(t, u, 1, 3, 0) + known(t, u, 1, 4, 0); s != "11?2" {
		t.Error(s) // also where one comes by an edge that a word rules out
	}
	u = folded(t, u)
	if s := known(t, u, 1, 1, 0) + known(t, u, 1, 2, 0) + known(t, u, 1, 3, 0) + known(t, u, 1, 4, 0); s != "1?12" {
		t.Error(s) // number 2 is not reached any more
	}
}

// refused holds that all calls have an error, and answer nothing beside it.
func refused(t *testing.T, u api.Unit, thread, node, slot int, want api.Errno) {
	t.Helper()
	if w, is, why := fold.Known(u, thread, node, slot); w != 0 || is || why != want {
		t.Errorf("Known of %d, %d, %d: %d, %v, error %d", thread, node, slot, w, is, why)
	}
	if want != api.ErrGraph {
		return
	}
	if v, why := fold.Fold(u); !cfg.Same(v, api.Unit{}) || why != want {
		t.Errorf("Fold: %v, error %d", v, why)
	}
	if v, times, why := fold.Fix(u); !cfg.Same(v, api.Unit{}) || times != 0 || why != want {
		t.Errorf("Fix: %v, %d, error %d", v, times, why)
	}
}

// 13.1 to 13.3, P1, P2: units that may not be; threads, nodes and slots that are none; which error comes first.
func TestRefused(t *testing.T) {
	const text = "shared x; lock l; thread a { local r; r = 1; print r; } thread b { lock l { x = 1; } }"
	for _, spoil := range []func(u *api.Unit){
		func(u *api.Unit) { u.Shared[0].Name = "l" },
		func(u *api.Unit) { u.Graphs = append(u.Graphs, api.Graph{Name: "c"}) },
		func(u *api.Unit) { u.Graphs[0].Nodes = nil },
		func(u *api.Unit) { u.Graphs[0].Nodes[0].Slot = 1 },
		func(u *api.Unit) { u.Graphs[0].Nodes[1].A.Slot = -1 },
		func(u *api.Unit) { u.Graphs[0].Nodes[0].Op = api.OpCount },
		func(u *api.Unit) { u.Graphs[1].Nodes[1].Thing = 1 },
		func(u *api.Unit) { u.Graphs[1].Nodes[0].Kind = api.NodeCount },
		func(u *api.Unit) { u.Graphs[1].Nodes[0].Next = 3 },
	} {
		u := unit(t, text)
		spoil(&u)
		for _, n := range []int{0, -1, 99} {
			refused(t, u, n, n, n, api.ErrGraph)
		}
	}
	u := unit(t, text)
	for _, n := range []int{math.MinInt, -1, 4, 5, math.MaxInt} {
		refused(t, u, n, 0, 0, api.ErrRange)
		refused(t, u, 0, n, 0, api.ErrRange)
		refused(t, u, 0, 0, n, api.ErrRange)
	}
	refused(t, u, 2, 0, 0, api.ErrRange)
	refused(t, u, 0, 3, 0, api.ErrRange)
	refused(t, u, 0, 2, 1, api.ErrRange)
	refused(t, u, 1, 0, 0, api.ErrRange) // it has no slots
	refused(t, api.Unit{}, 0, 0, 0, api.ErrRange)
	if v, times := fixed(t, api.Unit{}); !cfg.Same(v, api.Unit{}) || times != 0 || !cfg.Same(folded(t, api.Unit{}), v) {
		t.Error(v, times)
	}
}
