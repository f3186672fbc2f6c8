package ways_test

import (
	"fmt"
	"testing"

	"stile/api"
	"stile/cfg"
	"stile/parse"
	"stile/ways"
)

func unit(t *testing.T, s string) api.Unit {
	t.Helper()
	p, why, f := parse.Parse(s)
	if why != api.OK {
		t.Fatalf("Parse(%q): error %d, %v", s, why, f)
	}
	u, why := cfg.Lower(p)
	if why != api.OK {
		t.Fatalf("Lower of %q: error %d", s, why)
	}
	return u
}

// shown writes what each node is.
func shown(th *ways.Thread) string {
	s := ""
	for node := range th.Count() {
		for role, sign := range map[ways.Role]string{ways.None: "-", ways.OpenStore: "s", ways.RacyLoad: "l", ways.Drain: "d"} {
			if th.Is(node, role) {
				s += sign
			}
		}
	}
	return s
}

// Stores and loads count of racy variables alone, giving back a lock and drains always; nodes that are not reached never.
func TestRoles(t *testing.T) {
	const other = " thread o { local r; r = x; x = 1; lock l { g = 1; } }"
	for s, want := range map[string]string{
		"":                                  "-",
		"x = 1;":                            "s-",
		"r = x;":                            "l--",
		"p = 1; r = p;":                     "----",
		"g = 1;":                            "s-", // without the lock it is racy
		"lock l { g = 1; r = g; }":          "d---s-",
		"lock l { x = 1; r = x; }":          "dsl-s-",
		"r = swap(x, 1);":                   "d-",
		"r = swap(p, 1);":                   "d-",
		"print 1;":                          "d-",
		"if (r) { r = 2; }":                 "---",
		"lock m { }":                        "ds-",
		"while (x) { x = r; } x = p + x;":   "l-s-l-s-",
		"x = x; x = swap(x, x); print x+x;": "lsldsll-d-",
	} {
		u := unit(t, "shared x, g, p; lock l, m; thread a { local r; "+s+" }"+other)
		if got := shown(ways.New(u, 0, nil)); got != want {
			t.Errorf("%q: %s, not %s", s, got, want)
		}
	}
	u := unit(t, "shared x; lock l; thread a { lock l { x = x; } print x; }"+" thread b { x = 1; }")
	u.Graphs[0].Nodes[0] = api.Node{Kind: api.NodeSet, Next: 6}
	u.Graphs[0].Nodes[5].Next = 0
	if s := shown(ways.New(u, 0, nil)); s != "-------" {
		t.Error(s)
	}
	if s := shown(ways.New(u, 1, nil)); s != "--" {
		t.Error(s) // x is thread 1's alone
	}
}

// Nodes are those of a role, rising; what is behind a node comes rising, each once; fences come and go.
func TestThread(t *testing.T) {
	u := unit(t, "shared x, y; thread a { while (x) { if (y) { x = 1; } else { } } y = 2; } thread b { x = y; y = x; }")
	th := ways.New(u, 0, []int{1, 4})
	if s := fmt.Sprint(shown(th), th.Nodes(ways.OpenStore), th.Nodes(ways.RacyLoad), th.Nodes(ways.Drain)); s != "l-l-ss-[4 5] [0 2] []" {
		t.Error(s)
	}
	s := ""
	for node := range th.Count() {
		s += fmt.Sprint(th.Behind(node), th.Fenced(node))
	}
	if s != "[1] false[2 5] true[3] false[0 4] false[0] true[6] false[] false" {
		t.Error(s)
	}
	u.Graphs[0].Nodes[3].Else = 4
	if l := ways.New(u, 0, nil).Behind(3); fmt.Sprint(l) != "[4]" {
		t.Error(l)
	}
	th.Lift(1)
	th.Fence(0)
	for node, want := range []bool{true, false, false, false, true, false, false} {
		if th.Fenced(node) != want {
			t.Error(node)
		}
	}
}
