package sharing_test

import (
	"cmp"
	"fmt"
	"math/rand/v2"
	"runtime"
	"slices"
	"strings"
	"testing"
	"time"

	"stile/api"
	"stile/cfg"
	"stile/sharing"
	"stile/source"
)

// grown is a thread's text by chance, of shared x, y, z, locks l, m, k, local r.
func grown(r *rand.Rand, wide int) string {
	pick := func(l ...string) string { return l[r.IntN(len(l))] }
	s := ""
	for range 1 + r.IntN(2) {
		kind := r.IntN(9)
		if wide == 0 {
			kind = 5 + r.IntN(4)
		}
		word := pick("0", "1", "x", "y", "r", "!r", "z - y")
		switch kind {
		case 0:
			s += "if (" + word + ") {" + grown(r, wide-1) + "} "
		case 1:
			s += "while (" + word + ") {" + grown(r, wide-1) + "} "
		case 2, 3, 4:
			s += "lock " + pick("l", "m", "k") + " {" + grown(r, wide-1) + "} "
		case 5, 6:
			s += pick("x", "y", "z", "r") + " = " + word + "; "
		case 7:
			s += pick("x", "r") + " = swap(" + pick("x", "y", "z") + ", " + word + "); "
		default:
			s += pick("print "+word, "r = "+word, "skip") + "; "
		}
	}
	return s
}

// grownUnit is a unit by chance; often with links that lead elsewhere, so that not all nodes are reached.
func grownUnit(t *testing.T, r *rand.Rand, threads int) api.Unit {
	t.Helper()
	s := "shared x, y = 1, z; lock l, m, k; "
	for i := range threads {
		s += "thread " + string(rune('a'+i)) + " { local r; " + grown(r, 3) + "} "
	}
	u := unit(t, s)
	for range r.IntN(5) {
		nodes := u.Graphs[r.IntN(threads)].Nodes
		n := &nodes[r.IntN(len(nodes))]
		was := *n
		switch n.Kind {
		case api.NodeEnd:
		case api.NodeBranch:
			n.Else = r.IntN(len(nodes))
		default:
			n.Next = r.IntN(len(nodes))
		}
		if why, _, _ := cfg.Check(u); why != api.OK {
			*n = was
		}
	}
	return u
}

func reads(n api.Node) bool { return n.Kind == api.NodeLoad || n.Kind == api.NodeSwap }

func writes(n api.Node) bool { return n.Kind == api.NodeStore || n.Kind == api.NodeSwap }

// told is what the chapter's words say of a unit, read anew: of each thread's nodes, whether they are reached, and what is held then.
type told struct {
	u       api.Unit
	reached [][]bool
	held    [][][]int
}

func tell(u api.Unit) told {
	x := told{u: u}
	for _, g := range u.Graphs {
		reached := make([]bool, len(g.Nodes))
		held := make([][]int, len(g.Nodes))
		var come func(at int, now []int)
		come = func(at int, now []int) {
			if reached[at] {
				return
			}
			n := g.Nodes[at]
			reached[at], held[at] = true, now
			switch n.Kind {
			case api.NodeEnd:
				return
			case api.NodeLock:
				now = append(slices.Clone(now), n.Thing)
			case api.NodeUnlock:
				now = slices.Clone(now[:len(now)-1])
			case api.NodeBranch:
				come(n.Else, now)
			}
			come(n.Next, now)
		}
		come(0, nil)
		x.reached = append(x.reached, reached)
		x.held = append(x.held, held)
	}
	return x
}

// users are the threads with a reached node of which something holds.
func (x told) users(is func(n api.Node) bool) []int {
	var l []int
	for i, g := range x.u.Graphs {
		for at, n := range g.Nodes {
			if x.reached[i][at] && is(n) {
				l = append(l, i)
			}
		}
	}
	return slices.Compact(l)
}

func (x told) touches() string {
	s := ""
	for v := range x.u.Shared {
		s += fmt.Sprint(
			x.users(func(n api.Node) bool { return n.Thing == v && reads(n) }), "|",
			x.users(func(n api.Node) bool { return n.Thing == v && writes(n) }), " ")
	}
	return strings.TrimSpace(s)
}

func (x told) owners() string {
	var l []int
	for v := range x.u.Shared {
		by := x.users(func(n api.Node) bool { return n.Thing == v && (reads(n) || writes(n)) })
		switch len(by) {
		case 0:
			l = append(l, -1)
		case 1:
			l = append(l, by[0])
		default:
			l = append(l, -2)
		}
	}
	return fmt.Sprint(l)
}

// isRace: of two nodes of two threads, the lesser thread's first.
func (x told) isRace(a, b api.Access) bool {
	n, m := x.u.Graphs[a.Thread].Nodes[a.Node], x.u.Graphs[b.Thread].Nodes[b.Node]
	if !x.reached[a.Thread][a.Node] || !x.reached[b.Thread][b.Node] || a.Thread >= b.Thread || n.Thing != m.Thing {
		return false
	}
	if !(reads(n) || writes(n)) || !(reads(m) || writes(m)) || !writes(n) && !writes(m) {
		return false
	}
	return !slices.ContainsFunc(x.held[a.Thread][a.Node], func(lock int) bool {
		return slices.Contains(x.held[b.Thread][b.Node], lock)
	})
}

// races are found in another order than that in which they are to be told.
func (x told) races() []api.Pair {
	var l []api.Pair
	for j, h := range x.u.Graphs {
		for i, g := range x.u.Graphs {
			for at := range g.Nodes {
				for to := range h.Nodes {
					a, b := api.Access{Thread: i, Node: at}, api.Access{Thread: j, Node: to}
					if x.isRace(a, b) {
						l = append(l, api.Pair{A: a, B: b})
					}
				}
			}
		}
	}
	slices.SortFunc(l, func(p, q api.Pair) int {
		return cmp.Or(p.A.Thread-q.A.Thread, p.A.Node-q.A.Node, p.B.Thread-q.B.Thread, p.B.Node-q.B.Node)
	})
	return l
}

// part tells whether two nodes may be done in either order, whatever stands between.
func part(n, m api.Node) bool {
	switch {
	case n.Kind == api.NodePrint:
		return m.Kind != api.NodePrint
	case n.Kind == api.NodeLock:
		return m.Kind != api.NodeLock || n.Thing != m.Thing
	case !reads(n) && !writes(n) || !reads(m) && !writes(m) || n.Thing != m.Thing:
		return true
	}
	return !writes(n) && !writes(m)
}

func (x told) apart(a, b int) bool {
	for i, n := range x.u.Graphs[a].Nodes {
		for j, m := range x.u.Graphs[b].Nodes {
			if x.reached[a][i] && x.reached[b][j] && !part(n, m) {
				return false
			}
		}
	}
	return a != b
}

// 9.1 to 9.4: units by chance held against the chapter's words.
func TestAgainstTold(t *testing.T) {
	r := rand.New(rand.NewPCG(9, 1))
	seen := map[string]int{}
	for range 3000 {
		u := grownUnit(t, r, 1+r.IntN(4))
		x := tell(u)
		if got, want := touches(t, u), x.touches(); got != want {
			t.Errorf("Touches: %s, not %s", got, want)
		}
		if got, want := owners(t, u), x.owners(); got != want {
			t.Errorf("Owners: %s, not %s", got, want)
		}
		l, want := races(t, u), x.races()
		if !slices.Equal(l, want) {
			t.Errorf("Races: %v, not %v", l, want)
		}
		for a := range u.Graphs {
			for b := range u.Graphs {
				if got := apart(t, u, a, b); got != x.apart(a, b) {
					t.Errorf("Apart of %d, %d: %v", a, b, got)
				} else if a != b {
					seen[fmt.Sprint("apart ", got)]++
				}
			}
		}
		seen[fmt.Sprint("races ", min(len(l), 9))]++
		for _, l := range x.reached {
			seen[fmt.Sprint("all reached ", !slices.Contains(l, false))]++
		}
		if t.Failed() {
			s, _ := cfg.Print(u)
			t.Fatal(s)
		}
	}
	for _, what := range []string{"apart true", "apart false", "races 0", "races 1", "races 2", "races 9", "all reached true", "all reached false"} {
		if seen[what] < 100 {
			t.Error(what, seen[what])
		}
	}
}

// next is the node that a thread does next.
func next(u api.Unit, m *source.Machine, thread int) api.Node {
	return u.Graphs[thread].Nodes[m.At(thread)]
}

// 9.6, 9.7: runs by chance: threads read and write what Touches says; whoever could clash with another one, does so at a race.
func TestRuns(t *testing.T) {
	r := rand.New(rand.NewPCG(9, 6))
	accesses, clashes := 0, 0
	for range 1500 {
		u := grownUnit(t, r, 2+r.IntN(2))
		l, _ := sharing.Touches(u)
		known := races(t, u)
		m, _ := source.New(u)
		for range 60 {
			for a := range u.Graphs {
				for b := a + 1; b < len(u.Graphs); b++ {
					n, k := next(u, m, a), next(u, m, b)
					if !m.Can(a) || !m.Can(b) || n.Kind == api.NodePrint || n.Kind == api.NodeLock || part(n, k) {
						continue
					}
					clashes++
					if p := (api.Pair{A: api.Access{Thread: a, Node: m.At(a)}, B: api.Access{Thread: b, Node: m.At(b)}}); !slices.Contains(known, p) {
						s, _ := cfg.Print(u)
						t.Fatalf("%s%v is no race", s, p)
					}
				}
			}
			did, why := m.Step(r.IntN(len(u.Graphs)))
			if why != api.OK {
				continue
			}
			n := api.Node{Kind: did.Kind}
			if reads(n) || writes(n) {
				accesses++
			}
			if reads(n) && !slices.Contains(l[did.Thing].Readers, did.Thread) || writes(n) && !slices.Contains(l[did.Thing].Writers, did.Thread) {
				t.Fatal(did, l)
			}
		}
	}
	if accesses < 10000 || clashes < 1000 {
		t.Error(accesses, clashes)
	}
}

// put does so many steps of two threads, put between one another as it is told; who can't step does not.
func put(m *source.Machine, l []int) string {
	for _, thread := range l {
		m.Step(thread)
	}
	return m.Key()
}

// 9.8: of threads that are Apart, the same steps come to the same, in whatever order.
func TestApartRuns(t *testing.T) {
	r := rand.New(rand.NewPCG(9, 8))
	tried := 0
	for range 2000 {
		u := grownUnit(t, r, 3)
		a := r.IntN(3)
		b := (a + 1 + r.IntN(2)) % 3
		if !apart(t, u, a, b) {
			continue
		}
		tried++
		m, _ := source.New(u)
		for range r.IntN(12) {
			m.Step(r.IntN(3))
		}
		l := append(slices.Repeat([]int{a}, r.IntN(12)), slices.Repeat([]int{b}, r.IntN(12))...)
		want := put(m.Copy(), l)
		for range 6 {
			r.Shuffle(len(l), func(i, j int) { l[i], l[j] = l[j], l[i] })
			if got := put(m.Copy(), l); got != want {
				s, _ := cfg.Print(u)
				t.Fatalf("%s%v from %s: %s, not %s", s, l, m.Key(), got, want)
			}
		}
	}
	if tried < 200 {
		t.Error(tried)
	}
}

// alwaysUnder tells whether some lock is held ahead of all nodes that touch a variable.
func (x told) alwaysUnder(v int) bool {
	for lock := range x.u.Locks {
		all := true
		for i, g := range x.u.Graphs {
			for at, n := range g.Nodes {
				if x.reached[i][at] && n.Thing == v && (reads(n) || writes(n)) && !slices.Contains(x.held[i][at], lock) {
					all = false
				}
			}
		}
		if all {
			return true
		}
	}
	return false
}

// 9.9: variables that are always under one lock, have an owner, or are not written, have no race.
func TestNoRaceWithin(t *testing.T) {
	r := rand.New(rand.NewPCG(9, 9))
	seen := map[string]int{}
	for range 3000 {
		u := grownUnit(t, r, 2)
		x := tell(u)
		racy := map[int]int{}
		for _, p := range races(t, u) {
			racy[u.Graphs[p.A.Thread].Nodes[p.A.Node].Thing]++
		}
		l, _ := sharing.Touches(u)
		owner, _ := sharing.Owners(u)
		for v := range u.Shared {
			why := ""
			switch {
			case owner[v] != -2:
				why = "an owner"
			case len(l[v].Writers) == 0:
				why = "not written"
			case x.alwaysUnder(v):
				why = "under one lock"
			default:
				continue
			}
			seen[why]++
			if racy[v] > 0 {
				s, _ := cfg.Print(u)
				t.Fatalf("%s%d has a race, though: %s", s, v, why)
			}
		}
	}
	for _, why := range []string{"an owner", "not written", "under one lock"} {
		if seen[why] < 50 {
			t.Error(why, seen[why])
		}
	}
}

// 9.5: answers are new memory; what is handed in is neither changed nor kept.
func TestNewMemory(t *testing.T) {
	const text = "shared x, y, z; lock l; thread a { x = y; print z; } thread b { y = x; lock l { z = x; } } thread c { x = y; z = 1; }"
	u, same := unit(t, text), unit(t, text)
	l, _ := sharing.Touches(u)
	want := fmt.Sprint(l)
	for i := range l {
		rest := fmt.Sprint(slices.Delete(slices.Clone(l), i, i+1))
		for _, list := range [][]int{l[i].Readers, l[i].Writers} {
			_ = append(list, 99)
		}
		clear(l[i].Readers)
		if l[i].Readers[0] = 77; l[i].Writers[0] == 77 {
			t.Error("readers and writers share a list")
		}
		clear(l[i].Writers)
		if fmt.Sprint(slices.Delete(slices.Clone(l), i, i+1)) != rest {
			t.Error("two variables share a list")
		}
	}
	if got, _ := sharing.Touches(u); fmt.Sprint(got) != want {
		t.Error(got, "not", want)
	}
	first, before := races(t, u), owners(t, u)
	told := fmt.Sprint(first)
	clear(first)
	o, _ := sharing.Owners(u)
	clear(o)
	sharing.Apart(u, 0, 1)
	if s := fmt.Sprint(races(t, u)); s != told || owners(t, u) != before {
		t.Error(s, "not", told)
	}
	if !cfg.Same(u, same) {
		t.Error("the unit is changed")
	}
}

// answers is all that the package tells of a unit.
func answers(u api.Unit) string {
	l, a := sharing.Touches(u)
	o, b := sharing.Owners(u)
	r, c := sharing.Races(u)
	s := fmt.Sprint(l, a, o, b, r, c)
	for i := range u.Graphs {
		for j := range u.Graphs {
			is, why := sharing.Apart(u, i, j)
			s += fmt.Sprint(is, why)
		}
	}
	return s
}

// P3, P4: the same answers at each time, and to many that ask at one time; no goroutine is left.
func TestAlways(t *testing.T) {
	before := runtime.NumGoroutine()
	r := rand.New(rand.NewPCG(9, 3))
	for range 30 {
		u := grownUnit(t, r, 4)
		want := answers(u)
		done := make(chan string)
		for range 6 {
			go func() { done <- answers(u) }()
		}
		for range 6 {
			if got := <-done; got != want {
				t.Error(got, "not", want)
			}
		}
	}
	for range 1000 {
		if runtime.NumGoroutine() <= before {
			return
		}
		time.Sleep(time.Millisecond)
	}
	t.Error("goroutines are left")
}

// great is a unit of as many threads and nodes as may be: all touch what they do where the locks are held that a list names, one list after another.
func great(touch func(at int) api.Node, locks [][]int) api.Unit {
	u := api.Unit{}
	for i := range api.MaxShared {
		u.Shared = append(u.Shared, api.Decl{Name: fmt.Sprint("x", i)})
	}
	for i := range api.MaxLocks {
		u.Locks = append(u.Locks, api.Decl{Name: fmt.Sprint("l", i)})
	}
	for i := range api.MaxThreads {
		g := api.Graph{Name: fmt.Sprint("t", i), Slots: 1}
		put := func(n api.Node) {
			n.Next = len(g.Nodes) + 1
			g.Nodes = append(g.Nodes, n)
		}
		for at := 0; ; at++ {
			l := locks[at%len(locks)]
			if len(g.Nodes)+2*len(l)+1 >= api.MaxNodes {
				break
			}
			for _, lock := range l {
				put(api.Node{Kind: api.NodeLock, Thing: lock})
			}
			put(touch(at))
			for i := range l {
				put(api.Node{Kind: api.NodeUnlock, Thing: l[len(l)-1-i]})
			}
		}
		g.Nodes = append(g.Nodes, api.Node{Kind: api.NodeEnd})
		u.Graphs = append(u.Graphs, g)
	}
	return u
}

// P1, 9.3: the greatest units are gone through, too.
func TestGreat(t *testing.T) {
	store := func(at int) api.Node { return api.Node{Kind: api.NodeStore} }
	load := func(at int) api.Node { return api.Node{Kind: api.NodeLoad, Thing: at % api.MaxShared} }
	var pairs [][]int // each with lock 5
	for lock := range api.MaxLocks {
		pairs = append(pairs, []int{lock, 5})
	}
	for i, u := range []api.Unit{great(load, [][]int{nil}), great(store, [][]int{{3}}), great(store, pairs), great(load, pairs)} {
		if l, why := sharing.Races(u); why != api.OK || len(l) != 0 {
			t.Error(i, len(l), why)
		}
		if apart(t, u, 0, 7) != (i == 0) {
			t.Error(i, "apart or not")
		}
	}
	// All stores stand where one lock is held, deep within it, but for one node more of the last thread.
	u := great(store, [][]int{{3}})
	nodes := u.Graphs[7].Nodes
	nodes[0] = api.Node{Kind: api.NodeStore, Next: 3}
	l, why := sharing.Races(u)
	want := 0
	for _, g := range u.Graphs[:7] {
		want += (len(g.Nodes) - 1) / 3
	}
	if why != api.OK || len(l) != want {
		t.Error(len(l), why, want)
	}
	if l, why := sharing.Races(great(store, [][]int{{3}, {4}})); why != api.ErrMany || len(l) != 0 {
		t.Error(len(l), why)
	}
	if s := owners(t, u); s != "[-2"+strings.Repeat(" -1", api.MaxShared-1)+"]" {
		t.Error(s)
	}
}
