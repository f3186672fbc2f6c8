package cfg_test

import (
	"fmt"
	"math"
	"reflect"
	"slices"
	"strconv"
	"strings"
	"testing"

	"stile/api"
	"stile/cfg"
	"stile/parse"
)

func program(t *testing.T, s string) api.Program {
	t.Helper()
	p, why, f := parse.Parse(s)
	if why != api.OK {
		t.Fatalf("Parse(%.300q): error %d, %v", s, why, f)
	}
	return p
}

func lowered(t *testing.T, s string) api.Unit {
	t.Helper()
	u, why := cfg.Lower(program(t, s))
	if why != api.OK {
		t.Fatalf("Lower of %.300q: error %d", s, why)
	}
	right(t, u)
	return u
}

// right holds that a unit is right.
func right(t *testing.T, u api.Unit) {
	t.Helper()
	if why, i, node := cfg.Check(u); why != api.OK || i != 0 || node != 0 {
		t.Errorf("Check(%s): error %d, %d, %d", shown(u), why, i, node)
	}
}

// wrong holds a unit's fault against the one that it should have, and that all calls refuse it.
func wrong(t *testing.T, u api.Unit, i, node int) {
	t.Helper()
	if why, j, n := cfg.Check(u); why != api.ErrGraph || i != j || node != n {
		t.Errorf("Check(%s): error %d, %d, %d, not %d, %d", shown(u), why, j, n, i, node)
	}
	if s, why := cfg.Print(u); s != "" || why != api.ErrGraph {
		t.Errorf("Print(%s): %.80q, error %d", shown(u), s, why)
	}
	for _, at := range [][2]int{{0, 0}, {i, node}} {
		if s := cfg.Show(u, at[0], at[1]); s != "" {
			t.Errorf("Show(%s): %q", shown(u), s)
		}
	}
}

// shown is what a failing test tells of a unit: its beginning.
func shown(u api.Unit) string {
	s := fmt.Sprintf("%+v", u)
	return s[:min(len(s), 400)]
}

func text(t *testing.T, u api.Unit) string {
	t.Helper()
	s, why := cfg.Print(u)
	if why != api.OK {
		t.Errorf("Print(%s): error %d", shown(u), why)
	}
	return s
}

// 6.1: what statements and expressions are lowered to, of one thread with r, q ahead of all new slots.
func TestLower(t *testing.T) {
	for s, want := range map[string]string{
		"":                                  "end",
		"skip; skip;":                       "end",
		"r = 5;":                            "s0 = 5 -> 1; end",
		"r = q;":                            "s0 = s1 -> 1; end",
		"r = r;":                            "s0 = s0 -> 1; end",
		"r = x;":                            "s2 = x -> 1; s0 = s2 -> 2; end",
		"x = y;":                            "s2 = y -> 1; x = s2 -> 2; end",
		"x = 1; y = r;":                     "x = 1 -> 1; y = s0 -> 2; end",
		"r = -x; r = !3;":                   "s2 = x -> 1; s3 = - s2 -> 2; s0 = s3 -> 3; s4 = ! 3 -> 4; s0 = s4 -> 5; end",
		"print x + 2 * y;":                  "s2 = x -> 1; s3 = y -> 2; s4 = 2 * s3 -> 3; s5 = s2 + s4 -> 4; print s5 -> 5; end",
		"print x; print x;":                 "s2 = x -> 1; print s2 -> 2; s3 = x -> 3; print s3 -> 4; end",
		"print (r - q) - (1|2);":            "s2 = s0 - s1 -> 1; s3 = 1 | 2 -> 2; s4 = s2 - s3 -> 3; print s4 -> 4; end",
		"print 9223372036854775807;":        "print 9223372036854775807 -> 1; end",
		"r = swap(x, 1);":                   "s0 = swap x 1 -> 1; end",
		"x = swap(y, r);":                   "s2 = swap y s0 -> 1; x = s2 -> 2; end",
		"x = swap(x, y + 1);":               "s2 = y -> 1; s3 = s2 + 1 -> 2; s4 = swap x s3 -> 3; x = s4 -> 4; end",
		"lock l { }":                        "lock l -> 1; unlock l -> 2; end",
		"lock l { lock m { lock l { } } }":  "lock l -> 1; lock m -> 2; lock l -> 3; unlock l -> 4; unlock m -> 5; unlock l -> 6; end",
		"lock m { r = 1; } skip;":           "lock m -> 1; s0 = 1 -> 2; unlock m -> 3; end",
		"if (1) { } else { }":               "branch 1 -> 1 1; end",
		"if (r) { skip; } q = 1;":           "branch s0 -> 1 1; s1 = 1 -> 2; end",
		"if (r) { q = 1; }":                 "branch s0 -> 1 2; s1 = 1 -> 2; end",
		"if (r) { q = 1; } else { skip; }":  "branch s0 -> 1 2; s1 = 1 -> 2; end",
		"if (r) { } else { q = 1; }":        "branch s0 -> 2 1; s1 = 1 -> 2; end",
		"if (r) { q = 1; } else { q = 2; }": "branch s0 -> 1 2; s1 = 1 -> 3; s1 = 2 -> 3; end",
		"if (x) { q = 1; q = 2; } else { q = 3; q = 4; } q = 5;":             "s2 = x -> 1; branch s2 -> 2 4; s1 = 1 -> 3; s1 = 2 -> 6; s1 = 3 -> 5; s1 = 4 -> 6; s1 = 5 -> 7; end",
		"if (1) { if (2) { } else { } } else { if (3) { q = 1; } } print 4;": "branch 1 -> 1 2; branch 2 -> 4 4; branch 3 -> 3 4; s1 = 1 -> 4; print 4 -> 5; end",
		"while (1) { }":                                  "branch 1 -> 0 1; end",
		"while (x) { skip; }":                            "s2 = x -> 1; branch s2 -> 0 2; end",
		"r = 1; while (r) { r = 0; } r = 2;":             "s0 = 1 -> 1; branch s0 -> 2 3; s0 = 0 -> 1; s0 = 2 -> 4; end",
		"while (r < x) { if (q) { } else { x = 1; } }":   "s2 = x -> 1; s3 = s0 < s2 -> 2; branch s3 -> 3 5; branch s1 -> 0 4; x = 1 -> 0; end",
		"while (1) { while (2) { } }":                    "branch 1 -> 1 2; branch 2 -> 1 0; end",
		"while (1) { while (x) { print 1; } } print 2;":  "branch 1 -> 1 4; s2 = x -> 2; branch s2 -> 3 0; print 1 -> 1; print 2 -> 5; end",
		"lock l { while (x) { lock m { print 1; } } }":   "lock l -> 1; s2 = x -> 2; branch s2 -> 3 6; lock m -> 4; print 1 -> 5; unlock m -> 1; unlock l -> 7; end",
		"if (1) { while (2) { } } else { lock l { } }":   "branch 1 -> 1 2; branch 2 -> 1 4; lock l -> 3; unlock l -> 4; end",
		"if (1) { if (2) { if (3) { } } } else { } r=4;": "branch 1 -> 1 3; branch 2 -> 2 3; branch 3 -> 3 3; s0 = 4 -> 4; end",
	} {
		u := lowered(t, "shared x, y; lock l, m; thread a { local r, q; "+s+" }")
		full := "thread a\n"
		for i, line := range strings.Split(want, "; ") {
			full += strconv.Itoa(i) + " " + line + "\n"
		}
		if got := text(t, u); got != full {
			t.Errorf("%q:\n%snot\n%s", s, got, full)
		}
	}
}

// 6.1, 6.2, 6.4, 6.3: the chapter's examples.
func TestExamples(t *testing.T) {
	if got, want := text(t, lowered(t, "shared x, y; thread a { local r; r = x + 2 * y; }")), "thread a\n0 s1 = x -> 1\n1 s2 = y -> 2\n2 s3 = 2 * s2 -> 3\n3 s4 = s1 + s3 -> 4\n4 s0 = s4 -> 5\n5 end\n"; got != want {
		t.Error(got)
	}
	u := lowered(t, "shared x; thread a { while (x) { skip; } }")
	if got, want := text(t, u), "thread a\n0 s0 = x -> 1\n1 branch s0 -> 0 2\n2 end\n"; got != want {
		t.Error(got)
	}
	if d, n := cfg.Depth(u.Graphs[0]), cfg.Dominators(u.Graphs[0]); !slices.Equal(d, []int{1, 1, 0}) || !slices.Equal(n, []int{-1, 0, 1}) {
		t.Error(d, n)
	}
	u = lowered(t, "shared x; lock l; thread a { lock l { x = 1; } }")
	if h, ok := cfg.Held(u.Graphs[0]); !ok || fmt.Sprint(h) != "[[] [0] [0] []]" {
		t.Error(h, ok)
	}
	u.Graphs[0].Nodes[0] = api.Node{Kind: api.NodePrint, Next: 1}
	wrong(t, u, 0, 2)
	if h, ok := cfg.Held(u.Graphs[0]); ok || h != nil {
		t.Error(h, ok)
	}
	if got, want := text(t, lowered(t, "shared x, y; thread a { local r; if (1) { } else { } x = swap(y, r); }")), "thread a\n0 branch 1 -> 1 1\n1 s1 = swap y s0 -> 2\n2 x = s1 -> 3\n3 end\n"; got != want {
		t.Error(got)
	}
}

// 6.1: all that a unit has, field by field.
func TestUnit(t *testing.T) {
	p := program(t, "shared x = -3, y; lock l; thread a { local r; r = x; } thread b { local a, l2; lock l { y = swap(x, a); } }")
	u, why := cfg.Lower(p)
	slot := func(n int) api.Value { return api.Value{IsSlot: true, Slot: n} }
	want := api.Unit{Shared: p.Shared, Locks: p.Locks, Graphs: []api.Graph{
		{Name: "a", Locals: 1, Slots: 2, Nodes: []api.Node{
			{Kind: api.NodeLoad, Slot: 1, Next: 1},
			{Kind: api.NodeSet, A: slot(1), Next: 2, Origin: 1},
			{Kind: api.NodeEnd, Origin: 2},
		}},
		{Name: "b", Locals: 2, Slots: 3, Nodes: []api.Node{
			{Kind: api.NodeLock, Next: 1},
			{Kind: api.NodeSwap, Slot: 2, A: slot(0), Next: 2, Origin: 1},
			{Kind: api.NodeStore, Thing: 1, A: slot(2), Next: 3, Origin: 2},
			{Kind: api.NodeUnlock, Next: 4, Origin: 3},
			{Kind: api.NodeEnd, Origin: 4},
		}},
	}}
	if why != api.OK || !reflect.DeepEqual(u, want) {
		t.Errorf("%+v\nnot %+v, error %d", u, want, why)
	}
	for _, s := range []string{"", "shared x;", "lock l;"} {
		q := program(t, s)
		if got := lowered(t, s); !reflect.DeepEqual(got, api.Unit{Shared: q.Shared, Locks: q.Locks}) || text(t, got) != "" {
			t.Errorf("%q: %+v", s, got)
		}
	}
}

// 6.1: what is no program is refused.
func TestLowerRefused(t *testing.T) {
	for _, p := range []api.Program{
		program(t, "shared x, x;"), program(t, "thread a { x = 1; }"), program(t, "thread a { } thread b { lock a { } }"),
		{Locks: []api.Decl{{Name: "if"}}},
		{Shared: []api.Decl{{Name: "x", Word: math.MinInt64}}},
		{Threads: []api.Thread{{Name: "a", Body: []api.Stmt{{Kind: 99}}}}},
		{Threads: []api.Thread{{Name: "a", Body: []api.Stmt{{Kind: api.StmtPrint}}}}},
		{Threads: []api.Thread{{Name: "a", Body: []api.Stmt{{Kind: api.StmtPrint, E: []api.Expr{{Kind: api.ExprBinary, Op: api.OpNot}}}}}}},
		{Threads: make([]api.Thread, api.MaxThreads+1)},
	} {
		if u, why := cfg.Lower(p); why != api.ErrCheck || !reflect.DeepEqual(u, api.Unit{}) {
			t.Errorf("%v: error %d, %s", p, why, shown(u))
		}
	}
}

// stores is a thread's text of so many nodes, and the last one.
func stores(name string, n int, rest string) string {
	return "thread " + name + " { " + strings.Repeat("x=1;", n) + rest + " } "
}

// 6.1: as many nodes as may be, and one more; wherever the one too many comes from.
func TestManyNodes(t *testing.T) {
	const most = api.MaxNodes - 1
	u := lowered(t, "shared x; "+stores("a", most, "")+stores("b", most, ""))
	if l := u.Graphs[1].Nodes; len(l) != api.MaxNodes || l[most].Kind != api.NodeEnd || l[most].Origin != most {
		t.Error(len(l))
	}
	lowered(t, "shared x; "+stores("a", most-2, "x = 1 + 2;"))
	lowered(t, "shared x; "+stores("a", most-3, "if (x) { x = 1; }"))
	for _, s := range []string{
		stores("a", most+1, ""),
		stores("a", 3*most, ""),
		"thread b { } " + stores("a", most+1, ""),
		stores("a", most, "") + stores("b", most+1, ""),
		stores("a", most-1, "x = 1 + 2;"),
		stores("a", most-1, "x = swap(x, 2);"),
		stores("a", most-2, "if (x) { x = 1; }"),
		stores("a", most-2, "while (x) { print 1; }"),
		stores("a", most-1, "lock l { }"),
	} {
		if u, why := cfg.Lower(program(t, "shared x; lock l; "+s)); why != api.ErrMany || !reflect.DeepEqual(u, api.Unit{}) {
			t.Errorf("%.80q: error %d", s, why)
		}
	}
	// A new slot a node, but for the last one, behind all locals there may be.
	var locals []string
	for i := range api.MaxLocals {
		locals = append(locals, "r"+strconv.Itoa(i))
	}
	u = lowered(t, "shared x; thread a { local "+strings.Join(locals, ",")+";"+strings.Repeat("while(x+1){}", most/3)+" }")
	if g := u.Graphs[0]; g.Locals != api.MaxLocals || g.Slots != api.MaxLocals+most/3*2 || len(g.Nodes) != api.MaxNodes {
		t.Error(g.Locals, g.Slots, len(g.Nodes))
	}
}

// small is a unit of all kinds of nodes.
func small(t *testing.T) api.Unit {
	t.Helper()
	return lowered(t, "shared x = 7, y; lock l, m; thread a { local r; r = -x; while (r < 3) { lock l { y = swap(x, r); } } } thread b { lock m { print y; } }")
}

// 6.2: the unit's own numbers, names and words.
func TestCheckTop(t *testing.T) {
	end := []api.Node{{Kind: api.NodeEnd}}
	var u api.Unit
	for i := range api.MaxShared {
		u.Shared = append(u.Shared, api.Decl{Name: "x" + strconv.Itoa(i), Word: math.MinInt64, At: -9})
	}
	for i := range api.MaxLocks {
		u.Locks = append(u.Locks, api.Decl{Name: "l" + strconv.Itoa(i), At: 12})
	}
	for i := range api.MaxThreads {
		u.Graphs = append(u.Graphs, api.Graph{Name: "t" + strconv.Itoa(i), Nodes: end})
	}
	right(t, u)
	right(t, api.Unit{})
	right(t, api.Unit{Shared: []api.Decl{}, Locks: []api.Decl{}, Graphs: []api.Graph{}})
	for _, spoil := range []func(u *api.Unit){
		func(u *api.Unit) { u.Shared = append(u.Shared, api.Decl{Name: "y"}) },
		func(u *api.Unit) { u.Locks = append(u.Locks, api.Decl{Name: "y"}) },
		func(u *api.Unit) { u.Graphs = append(u.Graphs, api.Graph{Name: "y", Nodes: end}) },
		func(u *api.Unit) { u.Locks[3].Word = 1 },
		func(u *api.Unit) { u.Locks[0].Word = math.MinInt64 },
		func(u *api.Unit) { u.Shared[5].Name = "" },
		func(u *api.Unit) { u.Shared[5].Name = "if" },
		func(u *api.Unit) { u.Locks[5].Name = "5" },
		func(u *api.Unit) { u.Graphs[5].Name = strings.Repeat("n", api.MaxName+1) },
		func(u *api.Unit) { u.Graphs[0].Name = "" },
		func(u *api.Unit) { u.Shared[5].Name = "x0" },
		func(u *api.Unit) { u.Locks[5].Name = "l0" },
		func(u *api.Unit) { u.Graphs[5].Name = "t0" },
		func(u *api.Unit) { u.Locks[5].Name = "x0" },
		func(u *api.Unit) { u.Graphs[5].Name = "x0" },
		func(u *api.Unit) { u.Graphs[5].Name = "l0" },
	} {
		v := api.Unit{Shared: slices.Clone(u.Shared), Locks: slices.Clone(u.Locks), Graphs: slices.Clone(u.Graphs)}
		v.Graphs[6].Nodes = nil // a later fault is not told
		spoil(&v)
		wrong(t, v, 0, 0)
	}
}

// 6.2: a graph's own numbers: 0 is told ahead of its nodes, and of later graphs.
func TestCheckGraph(t *testing.T) {
	for _, spoil := range []func(g *api.Graph){
		func(g *api.Graph) { g.Locals = -1 },
		func(g *api.Graph) { g.Locals, g.Slots = api.MaxLocals+1, api.MaxSlots },
		func(g *api.Graph) { g.Locals, g.Slots = 3, 2 },
		func(g *api.Graph) { g.Slots = api.MaxSlots + 1 },
		func(g *api.Graph) { g.Slots = -1 },
		func(g *api.Graph) { g.Slots = math.MinInt },
		func(g *api.Graph) { g.Locals = math.MaxInt },
		func(g *api.Graph) { g.Nodes = nil },
		func(g *api.Graph) { g.Nodes = []api.Node{} },
		func(g *api.Graph) { g.Nodes = slices.Repeat([]api.Node{{Kind: api.NodeEnd}}, api.MaxNodes+1) },
	} {
		for i := range 2 {
			u := small(t)
			u.Graphs[i].Nodes[1].Origin = -1
			spoil(&u.Graphs[i])
			wrong(t, u, i, 0)
		}
	}
	u := small(t)
	u.Graphs[0].Locals, u.Graphs[0].Slots = api.MaxLocals, api.MaxSlots
	u.Graphs[1].Nodes = slices.Repeat([]api.Node{{Kind: api.NodeEnd}}, api.MaxNodes)
	right(t, u)
	u.Graphs[0].Locals = 0
	right(t, u)
	u.Graphs[1].Slots = 0
	u.Graphs[1].Locals = 0
	right(t, u)
	u.Graphs[1].Nodes[api.MaxNodes-1].Origin = -1
	wrong(t, u, 1, api.MaxNodes-1)
	u.Graphs[0].Nodes[2].Origin = -1
	wrong(t, u, 0, 2)
}

// 6.2: each field of each kind of nodes: what it may be, and what it must not.
func TestCheckNodes(t *testing.T) {
	slot := func(n int) api.Value { return api.Value{IsSlot: true, Slot: n} }
	good := []api.Value{{}, {Word: -1}, {Word: math.MinInt64}, slot(0), slot(2)}
	bad := []api.Value{slot(3), slot(-1), {Slot: 1}, {Slot: 1, Word: 1}, {IsSlot: true, Word: 1}, {IsSlot: true, Slot: 1, Word: 1}, slot(math.MaxInt)}
	base := api.Unit{Shared: []api.Decl{{Name: "x"}, {Name: "y"}}, Locks: []api.Decl{{Name: "l"}}}
	try := func(n api.Node, want bool) {
		t.Helper()
		u := base
		// Not reached, so that the locks are no matter; the graph has four nodes and three slots.
		u.Graphs = []api.Graph{{Name: "a", Slots: 3, Nodes: []api.Node{{Kind: api.NodeEnd}, {Kind: api.NodeEnd}, n, {Kind: api.NodeEnd}}}}
		if want {
			right(t, u)
		} else {
			wrong(t, u, 0, 2)
		}
	}
	uses := map[api.NodeKind]string{
		api.NodeSet: "slot op a next", api.NodeLoad: "slot shared next", api.NodeStore: "shared a next", api.NodeSwap: "slot shared a next",
		api.NodeLock: "lock next", api.NodeUnlock: "lock next", api.NodePrint: "a next", api.NodeBranch: "a next else", api.NodeEnd: "none",
	}
	for k := range 256 {
		kind := api.NodeKind(k)
		has := func(what string) bool { return strings.Contains(uses[kind], what) }
		if uses[kind] == "" {
			try(api.Node{Kind: kind}, false)
			continue
		}
		n := api.Node{Kind: kind}
		try(n, true)
		for _, at := range []int{math.MinInt, -1, 1, 2, 3, 4, math.MaxInt} {
			m := n
			m.Slot = at
			try(m, has("slot") && at > 0 && at < 3)
			m = n
			m.Thing = at
			try(m, has("shared") && at == 1)
			m = n
			m.Next = at
			try(m, has("next") && at > 0 && at < 4)
			m = n
			m.Else = at
			try(m, has("else") && at > 0 && at < 4)
		}
		for _, at := range []int{math.MinInt, -1, 1, api.MaxNodes - 1, api.MaxNodes, math.MaxInt} {
			m := n
			m.Origin = at
			try(m, at > 0 && at < api.MaxNodes)
		}
		for i, v := range slices.Concat(good, bad) {
			m := n
			m.A = v
			try(m, v == api.Value{} || has("a ") && i < len(good))
			m = n
			m.B = v
			try(m, v == api.Value{})
			m = n
			m.Op, m.B = api.OpShl, v
			try(m, has("op") && i < len(good))
			m.Op = api.OpNot
			try(m, has("op") && v == api.Value{})
		}
		for o := range 256 {
			m := n
			m.Op = api.Op(o)
			try(m, o == 0 || has("op") && o < int(api.OpCount))
		}
	}
	// Without shared variables, locks, slots there are no numbers of these.
	for _, n := range []api.Node{{Kind: api.NodeLoad}, {Kind: api.NodeStore}, {Kind: api.NodeLock}, {Kind: api.NodeUnlock}, {Kind: api.NodeSet}, {Kind: api.NodePrint, A: slot(0)}} {
		u := api.Unit{Graphs: []api.Graph{{Name: "a", Nodes: []api.Node{{Kind: api.NodeEnd}, n}}}}
		if n.Kind == api.NodeLoad {
			u.Graphs[0].Slots = 1
		}
		wrong(t, u, 0, 1)
	}
}

// knot is a unit of one thread by its nodes, in short: l, u and the lock, e, p, and b, with where it leads.
func knot(l ...string) api.Unit {
	u := api.Unit{Locks: []api.Decl{{Name: "l"}, {Name: "m"}}, Graphs: []api.Graph{{Name: "a"}}}
	for _, s := range l {
		n := api.Node{}
		f := strings.Fields(s)
		n.Kind = map[string]api.NodeKind{"l": api.NodeLock, "u": api.NodeUnlock, "e": api.NodeEnd, "p": api.NodePrint, "b": api.NodeBranch}[f[0]]
		var numbers []int
		for _, x := range f[1:] {
			at, _ := strconv.Atoi(x)
			numbers = append(numbers, at)
		}
		switch n.Kind {
		case api.NodeLock, api.NodeUnlock:
			n.Thing, n.Next = numbers[0], numbers[1]
		case api.NodePrint:
			n.Next = numbers[0]
		case api.NodeBranch:
			n.Next, n.Else = numbers[0], numbers[1]
		}
		u.Graphs[0].Nodes = append(u.Graphs[0].Nodes, n)
	}
	return u
}

// 6.2, 6.3: locks well nested, and which node is at fault, in the order in which they are found; what is held.
func TestNest(t *testing.T) {
	for s, want := range map[string]string{
		"e":                         "[[]]",
		"l 0 1,u 0 2,e":             "[[] [0] []]",
		"l 0 1,l 0 2,u 0 3,u 0 4,e": "[[] [0] [0 0] [0] []]",
		"l 0 1,l 1 2,l 0 3,p 4,u 0 5,u 1 6,u 0 7,e": "[[] [0] [0 1] [0 1 0] [0 1 0] [0 1] [0] []]",
		"l 0 1,p 1":                 "[[] [0]]",
		"b 1 2,l 0 3,l 0 3,u 0 4,e": "[[] [] [] [0] []]",
		"p 0,u 0 1,e,l 1 2":         "[[] [] [] []]",
		"l 0 1,b 2 3,p 1,u 0 4,e":   "[[] [0] [0] [0] []]",
		"l 0 1,u 0 0":               "[[] [0]]",

		"u 0 1,e":                         "at 0",
		"l 0 1,u 1 2,e":                   "at 1",
		"l 0 1,l 1 2,u 0 3,u 1 4,e":       "at 2",
		"l 0 1,e":                         "at 1",
		"l 0 1,l 0 2,u 0 3,e":             "at 3",
		"l 0 0":                           "at 0",
		"l 0 1,p 0":                       "at 0",
		"b 1 2,l 0 3,l 1 3,e":             "at 3",
		"b 1 2,l 0 2,e":                   "at 2",
		"b 2 1,l 0 2,e":                   "at 2",
		"b 1 2,l 0 3,e,e":                 "at 3",
		"b 2 1,e,u 0 1":                   "at 2",
		"b 1 2,u 0 3,u 0 3,e":             "at 1",
		"b 2 1,u 0 3,u 0 3,e":             "at 2",
		"l 0 1,b 2 3,l 1 4,p 4,u 0 5,e":   "at 4", // 4 is found from 2 with l, m; then from 3 with l alone
		"l 0 1,b 3 2,l 1 4,p 4,u 0 5,e":   "at 4",
		"b 1 4,l 0 2,l 1 3,e,p 5,u 1 6,e": "at 5", // 5 is found behind 2, but ahead of 3
		"b 1 2,p 3,l 0 3,p 4,e":           "at 3",
		"b 1 2,p 3,p 4,e,u 0 3":           "at 4",
		"b 3 1,l 0 2,u 1 4,l 0 3,e":       "at 3",
		"b 1 1,e,u 0 0":                   "[[] [] []]",
	} {
		u := knot(strings.Split(s, ",")...)
		held, ok := cfg.Held(u.Graphs[0])
		if at, is := strings.CutPrefix(want, "at "); is {
			node, _ := strconv.Atoi(at)
			wrong(t, u, 0, node)
			if ok || held != nil {
				t.Error(s, "Held:", held, ok)
			}
			continue
		}
		right(t, u)
		if !ok || fmt.Sprint(held) != want {
			t.Error(s, "Held:", held, ok)
		}
	}
	// A second graph; and one with another fault ahead.
	u := knot("l 0 1", "e")
	u.Graphs = append([]api.Graph{{Name: "b", Nodes: []api.Node{{Kind: api.NodeEnd}}}}, u.Graphs...)
	wrong(t, u, 1, 1)
	u.Graphs[0].Slots = -1
	wrong(t, u, 0, 0)
	u.Graphs[0].Slots = 0
	u.Graphs[1].Nodes = append(u.Graphs[1].Nodes, api.Node{})
	wrong(t, u, 1, 2)
}

// 6.5: the text of each kind of nodes, and of each operator.
func TestShow(t *testing.T) {
	u := small(t)
	want := "thread a\n0 s1 = x -> 1\n1 s2 = - s1 -> 2\n2 s0 = s2 -> 3\n3 s3 = s0 < 3 -> 4\n4 branch s3 -> 5 9\n5 lock l -> 6\n6 s4 = swap x s0 -> 7\n7 y = s4 -> 8\n8 unlock l -> 3\n9 end\nthread b\n0 lock m -> 1\n1 s0 = y -> 2\n2 print s0 -> 3\n3 unlock m -> 4\n4 end\n"
	if got := text(t, u); got != want {
		t.Error(got)
	}
	signs := map[api.Op]string{api.OpAdd: "+", api.OpSub: "-", api.OpMul: "*", api.OpDiv: "/", api.OpRem: "%", api.OpAnd: "&", api.OpOr: "|", api.OpXor: "^", api.OpShl: "<<", api.OpShr: ">>", api.OpIs: "==", api.OpIsNot: "!=", api.OpLess: "<", api.OpMost: "<=", api.OpAbove: ">", api.OpLeast: ">=", api.OpMinus: "-", api.OpNot: "!"}
	for op := range api.OpCount {
		g := api.Graph{Name: "a", Slots: api.MaxSlots, Nodes: []api.Node{{Kind: api.NodeSet, Op: op, Slot: 9, A: api.Value{Word: math.MinInt64}}}}
		want := "s9 = " + signs[op] + " -9223372036854775808 -> 0"
		switch {
		case op == api.OpNone:
			want = "s9 = -9223372036854775808 -> 0"
		case op != api.OpMinus && op != api.OpNot:
			g.Nodes[0].B = api.Value{IsSlot: true, Slot: api.MaxSlots - 1}
			want = "s9 = -9223372036854775808 " + signs[op] + " s4159 -> 0"
		}
		if got := cfg.Show(api.Unit{Graphs: []api.Graph{g}}, 0, 0); got != want {
			t.Errorf("%d: %q, not %q", op, got, want)
		}
	}
	for _, at := range [][2]int{{-1, 0}, {2, 0}, {0, -1}, {0, 10}, {1, 5}, {math.MinInt, math.MinInt}, {math.MaxInt, math.MaxInt}, {0, math.MaxInt}} {
		if got := cfg.Show(u, at[0], at[1]); got != "" {
			t.Errorf("%v: %q", at, got)
		}
	}
	u.Graphs[1].Nodes[4].Next = 1
	wrong(t, u, 1, 4)
}

// 6.5: Print is Show, node by node; also of the longest texts.
func TestPrint(t *testing.T) {
	u := small(t)
	var long api.Unit
	name := func(i int) string { return strings.Repeat("n", api.MaxName-1) + string(rune('a'+i)) }
	long.Shared = []api.Decl{{Name: name(25)}}
	for i := range api.MaxThreads {
		g := api.Graph{Name: name(i), Slots: api.MaxSlots}
		for n := range api.MaxNodes {
			g.Nodes = append(g.Nodes, api.Node{Kind: api.NodeSwap, Slot: api.MaxSlots - 1, A: api.Value{Word: math.MinInt64}, Next: api.MaxNodes - 1, Origin: n})
		}
		long.Graphs = append(long.Graphs, g)
	}
	if s := text(t, long); len(s) < 1<<21 || len(s) > api.MaxList {
		t.Error(len(s))
	}
	for i := range long.Graphs {
		long.Graphs[i].Nodes = long.Graphs[i].Nodes[:2]
		long.Graphs[i].Nodes[0].Next, long.Graphs[i].Nodes[1].Next = 1, 0
	}
	for _, v := range []api.Unit{u, long, {}} {
		want := ""
		for i, g := range v.Graphs {
			want += "thread " + g.Name + "\n"
			for n := range g.Nodes {
				want += strconv.Itoa(n) + " " + cfg.Show(v, i, n) + "\n"
			}
		}
		if got := text(t, v); got != want {
			t.Error(got)
		}
	}
}

// eachPart goes through all numbers, texts and lists of a value.
func eachPart(v reflect.Value, do func(v reflect.Value)) {
	switch v.Kind() {
	case reflect.Struct:
		for i := range v.NumField() {
			eachPart(v.Field(i), do)
		}
	case reflect.Slice:
		do(v)
		for i := range v.Len() {
			eachPart(v.Index(i), do)
		}
	default:
		do(v)
	}
}

// change makes a number or a text another one; a list one longer.
func change(v reflect.Value) {
	switch v.Kind() {
	case reflect.String:
		v.SetString(v.String() + "q")
	case reflect.Int, reflect.Int64:
		v.SetInt(v.Int() + 1)
	case reflect.Uint8:
		v.SetUint(v.Uint() ^ 1)
	case reflect.Bool:
		v.SetBool(!v.Bool())
	case reflect.Slice:
		v.Set(reflect.Append(v, reflect.Zero(v.Type().Elem())))
	}
}

// 6.5: Same goes by every field, places too, in every list; of any units.
func TestSame(t *testing.T) {
	u, v := small(t), small(t)
	n := 0
	eachPart(reflect.ValueOf(&u).Elem(), func(x reflect.Value) {
		if !cfg.Same(u, v) || !cfg.Same(v, u) || !cfg.Same(u, u) {
			t.Fatal("they are the same")
		}
		n++
		old := reflect.New(x.Type()).Elem()
		old.Set(x)
		change(x)
		if cfg.Same(u, v) || cfg.Same(v, u) {
			t.Error("they are the same, but for", x)
		}
		x.Set(old)
	})
	if n < 200 {
		t.Error("only", n, "fields")
	}
	if !cfg.Same(api.Unit{}, api.Unit{Shared: []api.Decl{}, Locks: []api.Decl{}, Graphs: []api.Graph{}}) || !cfg.Same(api.Unit{Graphs: []api.Graph{{}}}, api.Unit{Graphs: []api.Graph{{Nodes: []api.Node{}}}}) {
		t.Error("nil and empty lists are alike")
	}
	u.Graphs[0], u.Graphs[1] = u.Graphs[1], u.Graphs[0]
	if cfg.Same(u, v) {
		t.Error("in another order")
	}
	if cfg.Same(api.Unit{Shared: v.Shared}, api.Unit{Locks: v.Shared}) {
		t.Error("shared variables and locks")
	}
}
