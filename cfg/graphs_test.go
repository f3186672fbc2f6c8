package cfg_test

import (
	"fmt"
	"math"
	"math/rand/v2"
	"reflect"
	"slices"
	"testing"
	"unsafe"

	"stile/api"
	"stile/cfg"
)

// scattered is a graph of so many nodes by chance: any of the kinds, leading anywhere (near: not far).
func scattered(r *rand.Rand, n, near int) api.Graph {
	to := func(at int) int {
		if near == 0 || r.IntN(8) == 0 {
			return r.IntN(n)
		}
		return min(max(at+r.IntN(2*near+1)-near, 0), n-1)
	}
	g := api.Graph{Name: "a"}
	for at := range n {
		kind := api.NodeBranch
		if r.IntN(2) == 0 {
			kind = api.NodeKind(1 + r.IntN(int(api.NodeCount)-1))
		}
		// Only what leads on is as it must be: the calls that go through a graph ask for no more.
		x := api.Node{Kind: kind, Thing: r.IntN(5) - 2, Slot: -7, Origin: -1, Next: to(at), Else: -3}
		if kind == api.NodeBranch {
			x.Else = to(at)
		}
		if kind == api.NodeEnd {
			x.Next = 77
		}
		g.Nodes = append(g.Nodes, x)
	}
	return g
}

// on are the nodes to which one comes from a node.
func on(n api.Node) []int {
	if n.Kind == api.NodeEnd {
		return nil
	}
	if n.Kind == api.NodeBranch {
		return []int{n.Next, n.Else}
	}
	return []int{n.Next}
}

// comes tells of each node whether one comes to it from a node, in as many steps as one likes, without going on from the one that is shut.
func comes(g api.Graph, from, shut int) []bool {
	l := make([]bool, len(g.Nodes))
	l[from] = true
	for more := true; more; {
		more = false
		for at, n := range g.Nodes {
			for _, to := range on(n) {
				if l[at] && at != shut && !l[to] {
					l[to], more = true, true
				}
			}
		}
	}
	return l
}

// told is what chapter 6's words say of a graph, read anew: who dominates whom, by what is not reached any more.
type told struct {
	g       api.Graph
	reached []bool
	rules   [][]bool // by whom, whom
}

func newTold(g api.Graph) *told {
	x := &told{g: g, reached: comes(g, 0, -1)}
	for a := range g.Nodes {
		without := comes(g, 0, a)
		var l []bool
		for b := range g.Nodes {
			l = append(l, x.reached[b] && (a == b || !without[b]))
		}
		x.rules = append(x.rules, l)
	}
	return x
}

// next is the node, other than b, that all others that dominate b dominate; -1, if there is none.
func (x *told) next(b int) int {
	for a := range x.rules {
		if a == b || !x.rules[a][b] {
			continue
		}
		least := true
		for c := range x.rules {
			least = least && (c == b || !x.rules[c][b] || x.rules[c][a])
		}
		if least {
			return a
		}
	}
	return -1
}

func (x *told) depth() []int {
	l := make([]int, len(x.g.Nodes))
	for h := range x.g.Nodes {
		in := make([]bool, len(l))
		for end, n := range x.g.Nodes {
			if !x.rules[h][end] || !slices.Contains(on(n), h) {
				continue
			}
			in[h] = true
			for at := range l {
				if x.reached[at] && at != h && end != h && comes(x.g, at, h)[end] {
					in[at] = true
				}
			}
		}
		for at := range l {
			if in[at] {
				l[at]++
			}
		}
	}
	return l
}

// 6.3, 6.4, 6.8, 6.10: graphs by chance held against the chapter's words.
func TestAgainstWords(t *testing.T) {
	r := rand.New(rand.NewPCG(6, 1))
	deepest, ruled := 0, 0
	for i := range 4000 {
		n := 1 + r.IntN(9)
		if i%20 == 0 {
			n = 10 + r.IntN(25)
		}
		g := scattered(r, n, r.IntN(4))
		x := newTold(g)
		if got := cfg.Reached(g); !slices.Equal(got, x.reached) {
			t.Fatal(g, got)
		}
		ahead := make([][]int, n)
		for at, node := range g.Nodes {
			for _, to := range slices.Compact(on(node)) {
				ahead[to] = append(ahead[to], at)
			}
		}
		if got := cfg.Ahead(g); fmt.Sprint(got) != fmt.Sprint(ahead) {
			t.Fatal(g, got)
		}
		next := make([]int, n)
		for at := range next {
			next[at] = -1
			if x.reached[at] {
				next[at] = x.next(at)
			}
			if next[at] > 0 {
				ruled++
			}
		}
		if got := cfg.Dominators(g); !slices.Equal(got, next) {
			t.Fatal(g, got, "not", next)
		}
		depth := x.depth()
		if got := cfg.Depth(g); !slices.Equal(got, depth) {
			t.Fatal(g, got, "not", depth)
		}
		deepest = max(deepest, slices.Max(depth))
		whole(t, g)
	}
	if deepest < 4 || ruled < 1000 {
		t.Error("only", deepest, "deep, and", ruled, "ruled")
	}
}

// whole holds of a graph's answers what follows from the promises (6.8, 6.10), by themselves.
func whole(t *testing.T, g api.Graph) {
	t.Helper()
	reached, ahead, next := cfg.Reached(g), cfg.Ahead(g), cfg.Dominators(g)
	for at := range g.Nodes {
		some := at == 0
		for _, from := range ahead[at] {
			some = some || reached[from]
		}
		if reached[at] != some || reached[at] != (at == 0 || next[at] >= 0) {
			t.Fatal(g, at, reached, ahead, next)
		}
		steps := 0
		for up := at; reached[at] && up != 0; up = next[up] {
			if steps++; steps > len(g.Nodes) {
				t.Fatal(g, "the next dominators of", at, "do not lead to number 0")
			}
		}
	}
}

// 6.3, 6.4: of no more than they ask for a graph is gone through; of others there is none of all.
func TestLinked(t *testing.T) {
	none := func(g api.Graph) {
		t.Helper()
		h, ok := cfg.Held(g)
		if r, a, d, l := cfg.Reached(g), cfg.Ahead(g), cfg.Dominators(g), cfg.Depth(g); r != nil || a != nil || d != nil || l != nil || h != nil || ok {
			t.Error(r, a, d, l, h, ok)
		}
	}
	none(api.Graph{})
	none(api.Graph{Nodes: []api.Node{}})
	none(api.Graph{Nodes: slices.Repeat([]api.Node{{Kind: api.NodeEnd}}, api.MaxNodes+1)})
	for k := range 256 {
		kind := api.NodeKind(k)
		g := api.Graph{Nodes: []api.Node{{Kind: api.NodeEnd}, {Kind: kind}}}
		if kind == api.NodeNone || kind >= api.NodeCount {
			none(g)
			continue
		}
		for _, at := range []int{math.MinInt, -1, 0, 1, 2, math.MaxInt} {
			is := at == 0 || at == 1
			g.Nodes[1] = api.Node{Kind: kind, Next: at}
			if kind == api.NodeEnd || is {
				whole(t, g)
			} else {
				none(g)
			}
			g.Nodes[1] = api.Node{Kind: kind, Else: at}
			if kind != api.NodeBranch || is {
				whole(t, g)
			} else {
				none(g)
			}
		}
	}
	g := api.Graph{Nodes: slices.Repeat([]api.Node{{Kind: api.NodeEnd}}, api.MaxNodes), Locals: -5, Slots: -9, Name: "if"}
	whole(t, g)
	if h, ok := cfg.Held(g); !ok || len(h) != api.MaxNodes {
		t.Error(len(h), ok)
	}
	// Locks of any numbers may nest.
	g = api.Graph{Nodes: []api.Node{{Kind: api.NodeLock, Thing: math.MinInt, Next: 1}, {Kind: api.NodeLock, Thing: 99, Next: 2}, {Kind: api.NodeUnlock, Thing: 99, Next: 3}, {Kind: api.NodeUnlock, Thing: math.MinInt, Next: 4}, {Kind: api.NodeEnd}}}
	if h, ok := cfg.Held(g); !ok || fmt.Sprint(h) != fmt.Sprint([][]int{nil, {math.MinInt}, {math.MinInt, 99}, {math.MinInt}, nil}) {
		t.Error(h, ok)
	}
}

// walked is the node at fault as chapter 6 goes through the locks, read anew; -1; and what is held.
func walked(g api.Graph) (int, [][]int) {
	held := make([][]int, len(g.Nodes))
	found := make([]bool, len(g.Nodes))
	found[0] = true
	order := []int{0}
	for i := 0; i < len(order); i++ {
		at := order[i]
		n := g.Nodes[at]
		now := slices.Clone(held[at])
		switch {
		case n.Kind == api.NodeLock:
			now = append(now, n.Thing)
		case n.Kind == api.NodeUnlock && (len(now) == 0 || now[len(now)-1] != n.Thing), n.Kind == api.NodeEnd && len(now) > 0:
			return at, nil
		case n.Kind == api.NodeUnlock:
			now = now[:len(now)-1]
		}
		for _, to := range on(n) {
			if !found[to] {
				found[to], held[to] = true, now
				order = append(order, to)
			} else if !slices.Equal(held[to], now) {
				return to, nil
			}
		}
	}
	return -1, held
}

// locky is a graph of locks and branches by chance, rather often well nested.
func locky(r *rand.Rand) api.Graph {
	g := api.Graph{Name: "a"}
	var block func(deep int)
	put := func(kind api.NodeKind, thing int) int {
		at := len(g.Nodes)
		g.Nodes = append(g.Nodes, api.Node{Kind: kind, Thing: thing, Next: at + 1})
		return at
	}
	block = func(deep int) {
		for range 1 + r.IntN(3) {
			switch lock := r.IntN(2); r.IntN(3) {
			case 0:
				put(api.NodeLock, lock)
				if deep > 0 {
					block(deep - 1)
				}
				put(api.NodeUnlock, lock)
			case 1:
				at := put(api.NodeBranch, 0)
				if deep > 0 {
					block(deep - 1)
				}
				g.Nodes[at].Else = []int{at, len(g.Nodes), at + 1}[r.IntN(3)]
			case 2:
				put(api.NodePrint, 0)
			}
		}
	}
	block(3)
	at := put(api.NodeEnd, 0)
	g.Nodes[at].Next = 0
	for range r.IntN(5) {
		x := &g.Nodes[r.IntN(len(g.Nodes))]
		switch x.Kind {
		case api.NodeLock, api.NodeUnlock:
			x.Thing = r.IntN(2)
		case api.NodeBranch:
			x.Else = r.IntN(len(g.Nodes))
		case api.NodePrint:
			x.Next = r.IntN(len(g.Nodes))
		}
	}
	return g
}

// 6.2, 6.3: locks by chance held against the chapter's words; and where they are well nested, what one holds on whichever way one comes.
func TestNestAgainstWords(t *testing.T) {
	r := rand.New(rand.NewPCG(6, 2))
	well, ill := 0, 0
	for range 20000 {
		g := locky(r)
		u := api.Unit{Locks: []api.Decl{{Name: "l"}, {Name: "m"}}, Graphs: []api.Graph{g}}
		node, want := walked(g)
		held, ok := cfg.Held(g)
		if node >= 0 {
			ill++
			wrong(t, u, 0, node)
			if ok || held != nil {
				t.Fatal(g, held, ok)
			}
			continue
		}
		well++
		right(t, u)
		if !ok || fmt.Sprint(held) != fmt.Sprint(want) {
			t.Fatal(g, held, ok, "not", want)
		}
		var now []int
		for at, steps := 0, 0; steps < 60; steps++ {
			n := g.Nodes[at]
			if !slices.Equal(now, held[at]) {
				t.Fatal(g, "at", at, now, "not", held[at])
			}
			if n.Kind == api.NodeLock {
				now = append(now, n.Thing)
			}
			if n.Kind == api.NodeUnlock {
				now = now[:len(now)-1]
			}
			l := on(n)
			if len(l) == 0 {
				break
			}
			at = l[r.IntN(len(l))]
		}
		if t.Failed() {
			t.FailNow()
		}
	}
	if well < 5000 || ill < 5000 {
		t.Error("only", well, "well nested, and", ill, "ill")
	}
}

// great are graphs of as many nodes as may be, of shapes that cost much.
func great() map[string]api.Graph {
	const n = api.MaxNodes
	l := map[string]api.Graph{}
	add := func(name string, lead func(at int) (int, int)) {
		var g api.Graph
		for at := range n {
			next, other := lead(at)
			g.Nodes = append(g.Nodes, api.Node{Kind: api.NodeBranch, Next: next, Else: other})
		}
		l[name] = g
	}
	add("chain", func(at int) (int, int) { return min(at+1, n-1), min(at+1, n-1) })
	add("chain with ways back to the first", func(at int) (int, int) { return min(at+1, n-1), 0 })
	add("loops within loops", func(at int) (int, int) {
		if at < n/2 {
			return at + 1, at + 1
		}
		return min(at+1, n-1), n - 1 - at
	})
	add("ladder there and back", func(at int) (int, int) { return min(at+1, n-1), max(at-1, 0) })
	add("two rails", func(at int) (int, int) { return min(at+2, n-1), min(at^1, n-1) })
	add("two rails with ways back", func(at int) (int, int) {
		if at%4 == 0 {
			return min(at+2, n-1), at + 1
		}
		return min(at+2, n-1), max(at-3, 0)
	})
	r := rand.New(rand.NewPCG(6, 3))
	add("anywhere", func(int) (int, int) { return r.IntN(n), r.IntN(n) })
	add("near", func(at int) (int, int) { return min(at+1+r.IntN(3), n-1), max(at-r.IntN(40), 0) })
	return l
}

// P1: of the greatest graphs all answers come.
func TestGreat(t *testing.T) {
	for name, g := range great() {
		whole(t, g)
		depth := cfg.Depth(g)
		if h, ok := cfg.Held(g); !ok || len(h) != api.MaxNodes || len(depth) != api.MaxNodes {
			t.Error(name, ok, len(h), len(depth))
		}
		next := cfg.Dominators(g)
		switch name {
		case "chain":
			if next[api.MaxNodes-1] != api.MaxNodes-2 || depth[api.MaxNodes-2] != 0 || depth[api.MaxNodes-1] != 1 {
				t.Error(name, next, depth)
			}
		case "loops within loops":
			if depth[0] != 1 || depth[api.MaxNodes/2] != api.MaxNodes/2 {
				t.Error(name, depth)
			}
		}
	}
	// As many locks, one within another, as there is room for.
	var g api.Graph
	const deep = api.MaxNodes/2 - 1
	for at := range 2 * deep {
		kind := api.NodeLock
		if at >= deep {
			kind = api.NodeUnlock
		}
		g.Nodes = append(g.Nodes, api.Node{Kind: kind, Next: at + 1})
	}
	g.Nodes = append(g.Nodes, api.Node{Kind: api.NodeEnd})
	if h, ok := cfg.Held(g); !ok || len(h[deep]) != deep || len(h[2*deep]) != 0 {
		t.Error(ok)
	}
}

// memory are the addresses of all lists and texts of a value that have something in them; how many there are.
func memory(v any) (map[uintptr]bool, int) {
	l := map[uintptr]bool{}
	n := 0
	eachPart(reflect.ValueOf(v), func(x reflect.Value) {
		if k := x.Kind(); k != reflect.Slice && k != reflect.String || x.Len() == 0 {
			return
		}
		n++
		if x.Kind() == reflect.Slice {
			l[x.Pointer()] = true
		} else {
			l[uintptr(unsafe.Pointer(unsafe.StringData(x.String())))] = true
		}
	})
	return l, n
}

// apart holds that an answer shares no memory with what is given, nor two of its lists.
func apart(t *testing.T, what string, answer any, given ...any) {
	t.Helper()
	own, n := memory(answer)
	if n != len(own) {
		t.Error(what, "shares memory with itself")
	}
	for _, x := range given {
		ahead, _ := memory(x)
		for at := range own {
			if ahead[at] {
				t.Error(what, "shares memory with what there was")
			}
		}
	}
}

// 6.6: answers are new memory; what is handed in stays.
func TestNewMemory(t *testing.T) {
	s := "shared x, y; lock l, m; thread a { local r; lock l { lock m { while (x) { r = swap(y, !r); } } } } thread b { print x; }"
	p, q := program(t, s), program(t, s)
	u, _ := cfg.Lower(p)
	v, _ := cfg.Lower(p)
	apart(t, "Lower", u, p, v)
	g := u.Graphs[0]
	h, _ := cfg.Held(g)
	k, _ := cfg.Held(g)
	apart(t, "Held", h, g, k)
	apart(t, "Ahead", cfg.Ahead(g), g, cfg.Ahead(g))
	apart(t, "Reached", cfg.Reached(g), g, cfg.Reached(g))
	apart(t, "Dominators", cfg.Dominators(g), g, cfg.Dominators(g))
	apart(t, "Depth", cfg.Depth(g), g, cfg.Depth(g))
	cfg.Check(u)
	cfg.Print(u)
	cfg.Show(u, 0, 0)
	cfg.Same(u, v)
	if !reflect.DeepEqual(p, q) || !reflect.DeepEqual(u, v) {
		t.Error("what was handed in is another")
	}
	// A list that grows does not run into another one.
	for _, l := range h {
		_ = append(l, 99)
	}
	if !reflect.DeepEqual(h, k) {
		t.Error("two lists share their room")
	}
}
