package lockset_test

import (
	"fmt"
	"math/rand/v2"
	"runtime"
	"slices"
	"testing"
	"time"

	"stile/api"
	"stile/cfg"
	"stile/lockset"
	"stile/sharing"
	"stile/source"
)

// grown is a thread's text by chance, of shared w, x, y, z, locks l, m, k, local r.
func grown(r *rand.Rand, wide int) string {
	pick := func(l ...string) string { return l[r.IntN(len(l))] }
	s := ""
	for range 1 + r.IntN(2) {
		kind := r.IntN(10)
		if wide == 0 {
			kind = 6 + r.IntN(4)
		}
		word := pick("0", "1", "x", "y", "r", "!r", "z - y")
		switch kind {
		case 0:
			s += "if (" + word + ") {" + grown(r, wide-1) + "} "
		case 1:
			s += "while (" + word + ") {" + grown(r, wide-1) + "} "
		case 2, 3, 4, 5:
			s += "lock " + pick("l", "m", "k") + " {" + grown(r, wide-1) + "} "
		case 6, 7:
			s += pick("w", "x", "y", "z", "r") + " = " + word + "; "
		case 8:
			s += pick("x", "r") + " = swap(" + pick("x", "y", "z") + ", " + word + "); "
		default:
			s += pick("print "+word, "r = "+word, "skip") + "; "
		}
	}
	return s
}

// grownUnit is a unit by chance; often with links that lead elsewhere, so that not all nodes are reached.
func grownUnit(t *testing.T, r *rand.Rand, threads int) api.Unit {
	t.Helper()
	s := "shared w, x, y = 1, z; lock l, m, k; "
	for i := range threads {
		body := grown(r, 3)
		if r.IntN(2) == 0 {
			body = "lock l {" + body + "} "
		}
		s += "thread " + string(rune('a'+i)) + " { local r; " + body + "} "
	}
	u := unit(t, s)
	for range r.IntN(5) {
		nodes := u.Graphs[r.IntN(threads)].Nodes
		n := &nodes[r.IntN(len(nodes))]
		was := *n
		switch n.Kind {
		case api.NodeEnd:
		case api.NodeBranch:
			n.Else = r.IntN(len(nodes))
		default:
			n.Next = r.IntN(len(nodes))
		}
		if why, _, _ := cfg.Check(u); why != api.OK {
			*n = was
		}
	}
	return u
}

func isTouch(n api.Node) bool {
	return n.Kind == api.NodeLoad || n.Kind == api.NodeStore || n.Kind == api.NodeSwap
}

// told is what the chapter's words say of a unit, read anew: of each thread's nodes, whether they are reached, and of each lock whether it is held then.
type told struct {
	u       api.Unit
	reached [][]bool
	held    [][][]bool
}

func tell(u api.Unit) told {
	x := told{u: u}
	for _, g := range u.Graphs {
		reached := make([]bool, len(g.Nodes))
		held := make([][]bool, len(g.Nodes))
		var come func(at int, now []int)
		come = func(at int, now []int) {
			if reached[at] {
				return
			}
			n := g.Nodes[at]
			reached[at] = true
			for lock := range u.Locks {
				held[at] = append(held[at], slices.Contains(now, lock))
			}
			switch n.Kind {
			case api.NodeEnd:
				return
			case api.NodeLock:
				now = append(slices.Clone(now), n.Thing)
			case api.NodeUnlock:
				now = slices.Clone(now[:len(now)-1])
			case api.NodeBranch:
				come(n.Else, now)
			}
			come(n.Next, now)
		}
		come(0, nil)
		x.reached = append(x.reached, reached)
		x.held = append(x.held, held)
	}
	return x
}

// where are the reached nodes of which something holds.
func (x told) where(is func(n api.Node, held []bool) bool) []api.Access {
	var l []api.Access
	for i, g := range x.u.Graphs {
		for at, n := range g.Nodes {
			if x.reached[i][at] && is(n, x.held[i][at]) {
				l = append(l, api.Access{Thread: i, Node: at})
			}
		}
	}
	return l
}

func (x told) touch(thing int) []api.Access {
	return x.where(func(n api.Node, _ []bool) bool { return isTouch(n) && n.Thing == thing })
}

func (x told) bare(thing, lock int) []api.Access {
	return x.where(func(n api.Node, held []bool) bool { return isTouch(n) && n.Thing == thing && !held[lock] })
}

func (x told) guards(thing int) []int {
	var l []int
	for lock := range x.u.Locks {
		if len(x.touch(thing)) > 0 && len(x.bare(thing, lock)) == 0 {
			l = append(l, lock)
		}
	}
	return l
}

func (x told) class(thing int) api.Class {
	l := x.touch(thing)
	if len(l) == 0 {
		return api.Class{Kind: api.ClassUnused}
	}
	if first := l[0].Thread; l[len(l)-1].Thread == first {
		return api.Class{Kind: api.ClassPrivate, Thread: first}
	}
	if g := x.guards(thing); len(g) > 0 {
		return api.Class{Kind: api.ClassGuarded, Lock: g[0]}
	}
	return api.Class{Kind: api.ClassRacy}
}

// 10.1 to 10.3, 10.6, 10.7: units by chance held against the chapter's words, and against what follows from them.
func TestAgainstTold(t *testing.T) {
	r := rand.New(rand.NewPCG(10, 1))
	seen := map[string]int{}
	for range 3000 {
		u := grownUnit(t, r, 1+r.IntN(4))
		x := tell(u)
		for i := range u.Graphs {
			for at, l := range held(t, u, i) {
				var want []int
				for lock, is := range x.held[i][at] {
					if is {
						want = append(want, lock)
					}
				}
				if !slices.Equal(l, want) {
					t.Error("Held of", i, at, l, "not", want)
				}
			}
			seen[fmt.Sprint("all reached ", !slices.Contains(x.reached[i], false))]++
		}
		g, c := guards(t, u), classes(t, u)
		for thing := range u.Shared {
			if !slices.Equal(g[thing], x.guards(thing)) || c[thing] != x.class(thing) {
				t.Error(thing, g[thing], c[thing], "not", x.guards(thing), x.class(thing))
			}
			seen[fmt.Sprint("class ", c[thing].Kind)]++
		}
		for lock := range u.Locks {
			if l, want := under(t, u, lock), x.where(func(_ api.Node, held []bool) bool { return held[lock] }); !slices.Equal(l, want) {
				t.Error("Under", lock, l, "not", want)
			}
			for thing := range u.Shared {
				l := bare(t, u, thing, lock)
				if !slices.Equal(l, x.bare(thing, lock)) {
					t.Error("Bare of", thing, lock, l, "not", x.bare(thing, lock))
				}
				if c[thing].Kind != api.ClassUnused && slices.Contains(g[thing], lock) != (len(l) == 0) {
					t.Error(thing, lock, g, l)
				}
			}
		}
		races, _ := sharing.Races(u)
		for _, p := range races {
			if thing := u.Graphs[p.A.Thread].Nodes[p.A.Node].Thing; c[thing].Kind != api.ClassRacy {
				t.Error(p, "of", thing, c)
			}
			seen["race"]++
		}
		if t.Failed() {
			s, _ := cfg.Print(u)
			t.Fatal(s)
		}
	}
	for _, what := range []string{"all reached true", "all reached false", "race", "class 0", "class 1", "class 2", "class 3"} {
		if seen[what] < 200 {
			t.Error(what, seen[what])
		}
	}
}

// 10.5: runs by chance: whoever is about to do a node holds just what Held says; whoever touches a variable may, by its class.
func TestRuns(t *testing.T) {
	r := rand.New(rand.NewPCG(10, 5))
	seen := map[api.ClassKind]int{}
	for range 1500 {
		u := grownUnit(t, r, 1+r.IntN(3))
		c := classes(t, u)
		var l [][][]int
		for i := range u.Graphs {
			l = append(l, held(t, u, i))
		}
		m, _ := source.New(u)
		for range 80 {
			for i := range u.Graphs {
				var now []int
				for lock := range u.Locks {
					if m.Holder(lock) == i {
						now = append(now, lock)
					}
				}
				if !slices.Equal(now, l[i][m.At(i)]) {
					s, _ := cfg.Print(u)
					t.Fatalf("%s%d at %d: %v, not %v", s, i, m.At(i), l[i][m.At(i)], now)
				}
			}
			did, why := m.Step(r.IntN(len(u.Graphs)))
			if why != api.OK || !isTouch(api.Node{Kind: did.Kind}) {
				continue
			}
			x := c[did.Thing]
			seen[x.Kind]++
			if x.Kind == api.ClassUnused || x.Kind == api.ClassPrivate && x.Thread != did.Thread || x.Kind == api.ClassGuarded && m.Holder(x.Lock) != did.Thread {
				t.Fatal(did, x)
			}
		}
	}
	if seen[api.ClassPrivate] < 1000 || seen[api.ClassGuarded] < 1000 || seen[api.ClassRacy] < 1000 {
		t.Error(seen)
	}
}

// 10.8: with one thread's nodes all but its end taken away, no class grows.
func TestFewerThreads(t *testing.T) {
	r := rand.New(rand.NewPCG(10, 8))
	less := map[[2]api.ClassKind]int{}
	for range 2000 {
		u := grownUnit(t, r, 2+r.IntN(3))
		ahead := classes(t, u)
		for i, g := range u.Graphs {
			v := u
			v.Graphs = slices.Clone(u.Graphs)
			v.Graphs[i] = api.Graph{Name: g.Name, Locals: g.Locals, Slots: g.Slots, Nodes: []api.Node{{Kind: api.NodeEnd}}}
			for thing, c := range classes(t, v) {
				less[[2]api.ClassKind{ahead[thing].Kind, c.Kind}]++
				if c.Kind > ahead[thing].Kind {
					s, _ := cfg.Print(u)
					t.Fatalf("%swithout %d: %d is %v, not %v", s, i, thing, c, ahead[thing])
				}
			}
		}
	}
	for _, kinds := range [][2]api.ClassKind{{1, 0}, {2, 1}, {2, 2}, {3, 1}, {3, 2}, {3, 3}} {
		if less[kinds] < 50 {
			t.Error(kinds, less[kinds])
		}
	}
}

// 10.4: answers are new memory, in all their lists; what is handed in is neither changed nor kept.
func TestNewMemory(t *testing.T) {
	const text = "shared x, y; lock l, m; thread a { lock l { lock m { x = y; } } } thread b { lock m { lock l { y = x; } } x = 2; }"
	u, same := unit(t, text), unit(t, text)
	calls := map[string]func() [][]int{
		"Held":   func() [][]int { return held(t, u, 1) },
		"Guards": func() [][]int { return guards(t, u) },
	}
	for what, ask := range calls {
		l := ask()
		want := fmt.Sprint(l)
		for i := range l {
			rest := fmt.Sprint(slices.Delete(slices.Clone(l), i, i+1))
			for n := range l[i] {
				l[i][n] = 77
			}
			_ = append(l[i], 99)
			if fmt.Sprint(slices.Delete(slices.Clone(l), i, i+1)) != rest {
				t.Error("two lists of", what, "are one")
			}
		}
		if got := fmt.Sprint(ask()); got != want {
			t.Error(what, got, "not", want)
		}
	}
	before := answers(u)
	clear(classes(t, u))
	clear(under(t, u, 1))
	clear(bare(t, u, 0, 1))
	if answers(u) != before || !cfg.Same(u, same) {
		t.Error("the unit, or an answer, is changed")
	}
}

// answers is all that the package tells of a unit.
func answers(u api.Unit) string {
	g, a := lockset.Guards(u)
	c, b := lockset.Classes(u)
	s := fmt.Sprint(g, a, c, b)
	for i := range u.Graphs {
		l, why := lockset.Held(u, i)
		s += fmt.Sprint(l, why)
	}
	for lock := range u.Locks {
		l, why := lockset.Under(u, lock)
		s += fmt.Sprint(l, why)
		for thing := range u.Shared {
			l, why := lockset.Bare(u, thing, lock)
			s += fmt.Sprint(l, why)
		}
	}
	return s
}

// P3, P4: the same answers at each time, and to many that ask at one time; no goroutine is left.
func TestAlways(t *testing.T) {
	before := runtime.NumGoroutine()
	r := rand.New(rand.NewPCG(10, 3))
	for range 30 {
		u := grownUnit(t, r, 4)
		want := answers(u)
		done := make(chan string)
		for range 6 {
			go func() { done <- answers(u) }()
		}
		for range 6 {
			if got := <-done; got != want {
				t.Error(got, "not", want)
			}
		}
	}
	for range 1000 {
		if runtime.NumGoroutine() <= before {
			return
		}
		time.Sleep(time.Millisecond)
	}
	t.Error("goroutines are left")
}

// P1: threads of as many nodes as may be, that take one lock as often as they can, one block within another.
func TestGreat(t *testing.T) {
	const deep = api.MaxNodes/2 - 1
	u := api.Unit{Shared: []api.Decl{{Name: "x"}}, Locks: []api.Decl{{Name: "k"}, {Name: "l"}}}
	for i := range api.MaxThreads {
		g := api.Graph{Name: fmt.Sprint("t", i), Slots: 1}
		put := func(kind api.NodeKind, thing int) {
			g.Nodes = append(g.Nodes, api.Node{Kind: kind, Thing: thing, Next: len(g.Nodes) + 1})
		}
		for range deep {
			put(api.NodeLock, 1)
		}
		put(api.NodeLoad, 0)
		for range deep {
			put(api.NodeUnlock, 1)
		}
		g.Nodes = append(g.Nodes, api.Node{Kind: api.NodeEnd})
		u.Graphs = append(u.Graphs, g)
	}
	if s := fmt.Sprint(guards(t, u), shown(classes(t, u)), bare(t, u, 0, 1), len(bare(t, u, 0, 0))); s != fmt.Sprint("[[1]]g1[] ", api.MaxThreads) {
		t.Error(s)
	}
	if n := len(under(t, u, 1)); n != api.MaxThreads*2*deep {
		t.Error(n)
	}
	for at, l := range held(t, u, 7) {
		if (at > 0 && at <= 2*deep) != slices.Equal(l, []int{1}) {
			t.Fatal(at, l)
		}
	}
}
