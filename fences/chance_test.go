package fences_test

import (
	"fmt"
	"math/rand/v2"
	"runtime"
	"slices"
	"testing"
	"time"

	"stile/api"
	"stile/cfg"
	"stile/delay"
	"stile/fences"
	"stile/lockset"
)

// grown is a thread's text by chance, of shared w, x, y, z, locks l, m, local r.
func grown(r *rand.Rand, wide int) string {
	pick := func(l ...string) string { return l[r.IntN(len(l))] }
	s := ""
	for range 1 + r.IntN(3) {
		kind := r.IntN(16)
		if wide == 0 {
			kind = 5 + r.IntN(11)
		}
		word := pick("0", "1", "x", "y", "r", "!r", "z - y", "w")
		switch kind {
		case 0, 1:
			s += "if (" + word + ") {" + grown(r, wide-1) + "} else {" + pick("", grown(r, wide-1)) + "} "
		case 2, 3:
			s += "while (" + word + ") {" + grown(r, wide-1) + "} "
		case 4:
			s += "lock " + pick("l", "m") + " {" + grown(r, wide-1) + "} "
		case 5:
			s += pick("r = swap(x, "+word+"); ", "print "+word+"; ", "lock l { w = 1; } ", "lock m { } ")
		case 6, 7, 8, 9, 10:
			s += pick("w", "x", "y", "z") + " = " + word + "; "
		default:
			s += "r = " + word + "; "
		}
	}
	return s
}

// grownUnit is a unit by chance; often with links that lead elsewhere, so that not all nodes are reached, and loops have many ways in.
func grownUnit(t *testing.T, r *rand.Rand, threads int) api.Unit {
	t.Helper()
	s := "shared w, x, y = 1, z; lock l, m; "
	for i := range threads {
		s += "thread " + string(rune('a'+i)) + " { local r; " + grown(r, 2) + "} "
	}
	u := unit(t, s)
	for range r.IntN(8) {
		nodes := u.Graphs[r.IntN(threads)].Nodes
		n := &nodes[r.IntN(len(nodes))]
		was := *n
		switch n.Kind {
		case api.NodeEnd:
		case api.NodeBranch:
			n.Else = r.IntN(len(nodes))
		default:
			n.Next = r.IntN(len(nodes))
		}
		if why, _, _ := cfg.Check(u); why != api.OK {
			*n = was
		}
	}
	return u
}

// without is a list without one number.
func without(l []int, node int) []int {
	return slices.DeleteFunc(slices.Clone(l), func(n int) bool { return n == node })
}

func opened(t *testing.T, u api.Unit, thread int, l []int) bool {
	t.Helper()
	n, why := delay.Loads(u, thread, l)
	if why != api.OK {
		t.Error("Loads with", l, why)
	}
	return len(n) > 0
}

// merged is what the chapter's words say of a thread's fences with merge, step by step.
func merged(t *testing.T, u api.Unit, thread int) []int {
	t.Helper()
	l, _ := delay.Loads(u, thread, nil)
	depth := cfg.Depth(u.Graphs[thread])
	order := slices.Clone(l)
	slices.SortFunc(order, func(a, b int) int {
		if depth[a] != depth[b] {
			return depth[b] - depth[a]
		}
		return b - a
	})
	for _, node := range order {
		if less := without(l, node); !opened(t, u, thread, less) {
			l = less
		}
	}
	return l
}

// told is what the words of chapters 11 and 12 say of a thread, read anew.
type told struct {
	g                  api.Graph
	store, load, drain []bool
}

func tell(u api.Unit, thread int) told {
	classes, _ := lockset.Classes(u)
	g := u.Graphs[thread]
	n := len(g.Nodes)
	x := told{g, make([]bool, n), make([]bool, n), make([]bool, n)}
	seen := make([]bool, n)
	var come func(at int)
	come = func(at int) {
		if seen[at] {
			return
		}
		seen[at] = true
		switch n := g.Nodes[at]; n.Kind {
		case api.NodeUnlock:
			x.store[at] = true
		case api.NodeStore:
			x.store[at] = classes[n.Thing].Kind == api.ClassRacy
		case api.NodeLoad:
			x.load[at] = classes[n.Thing].Kind == api.ClassRacy
		case api.NodeSwap, api.NodeLock, api.NodePrint:
			x.drain[at] = true
		}
		for _, to := range x.behind(at) {
			come(to)
		}
	}
	come(0)
	return x
}

func (x told) behind(at int) []int {
	switch n := x.g.Nodes[at]; n.Kind {
	case api.NodeEnd:
		return nil
	case api.NodeBranch:
		return []int{n.Next, n.Else}
	default:
		return []int{n.Next}
	}
}

// spot is where a way has come to, and whether it has come by the node that is asked for.
type spot struct {
	at int
	by bool
}

// alone is the best way on which the fence ahead of a node stands alone; others are all other fences. All lengths are gone through, one after another.
func (x told) alone(others []int, node int) []int {
	now := map[spot][]int{}
	for at, is := range x.store {
		if is {
			now[spot{at, false}] = []int{at}
		}
	}
	for length := range 2*len(x.g.Nodes) + 2 {
		next := map[spot][]int{}
		for from, way := range now {
			if length > 0 && x.drain[from.at] {
				continue
			}
			for _, at := range x.behind(from.at) {
				if slices.Contains(others, at) {
					continue
				}
				to := spot{at, from.by || at == node}
				w := append(slices.Clone(way), at)
				if old, is := next[to]; !is || slices.Compare(w, old) < 0 {
					next[to] = w
				}
			}
		}
		var best []int
		for to, way := range next {
			if to.by && x.load[to.at] && (best == nil || slices.Compare(way, best) < 0) {
				best = way
			}
		}
		if best != nil {
			return best
		}
		now = next
	}
	return nil
}

// 12.1, 12.2, 12.5 to 12.7: units by chance: Place is what the chapter says, safe, and of the needful ones alone.
func TestPlaceByChance(t *testing.T) {
	r := rand.New(rand.NewPCG(12, 1))
	seen := map[string]int{}
	for range 1500 {
		u := grownUnit(t, r, 2+r.IntN(2))
		all, few := place(t, u, false), place(t, u, true)
		for thread := range u.Graphs {
			l, _ := delay.Loads(u, thread, nil)
			if !slices.Equal(all[thread], l) {
				t.Error("Place of", thread, all, "not", l)
			}
			if l := merged(t, u, thread); !slices.Equal(few[thread], l) {
				t.Error("Place with merge of", thread, few, "not", l)
			}
			if pairs, _ := delay.Pairs(u, thread); (len(pairs) == 0) != (len(few[thread]) == 0) || (len(pairs) == 0) != (len(all[thread]) == 0) {
				t.Error(pairs, all, few)
			}
			x := tell(u, thread)
			for _, node := range few[thread] {
				w := alone(t, u, thread, few[thread], node)
				if !x.load[node] || !slices.Contains(all[thread], node) || !needed(t, u, thread, few[thread], node) || len(w) == 0 {
					t.Error(node, "of", few, "is not needed")
				}
				for i, at := range w {
					if i > 0 && at != node && slices.Contains(few[thread], at) || i > 0 && i < len(w)-1 && x.drain[at] {
						t.Error(w, "has another fence or a drain")
					}
				}
			}
			seen[fmt.Sprint("all ", min(len(all[thread]), 3), ", few ", min(len(few[thread]), 3))]++
		}
		for _, l := range [][][]int{all, few} {
			if safe, why := delay.Safe(u, l); !safe || why != api.OK {
				t.Error(l, "is not safe")
			}
			sum := 0
			for thread, g := range u.Graphs {
				for _, node := range l[thread] {
					n := 1
					for range cfg.Depth(g)[node] {
						n *= 4
					}
					sum += n
				}
			}
			if n := cost(t, u, l...); n != sum {
				t.Error("Cost of", l, n, "not", sum)
			}
		}
		if cost(t, u, few...) > cost(t, u, all...) {
			t.Error(few, "cost more than", all)
		}
		if t.Failed() {
			s, _ := cfg.Print(u)
			t.Fatal(s)
		}
	}
	for _, what := range []string{"all 0, few 0", "all 1, few 1", "all 2, few 1", "all 2, few 2", "all 3, few 1", "all 3, few 2", "all 3, few 3"} {
		if seen[what] < 50 {
			t.Error(what, seen[what])
		}
	}
}

// 12.3, 12.8: units and fences by chance: Needed and Alone are what the chapter says.
func TestNeededByChance(t *testing.T) {
	r := rand.New(rand.NewPCG(12, 3))
	seen := map[string]int{}
	for range 4000 {
		u := grownUnit(t, r, 2)
		few := place(t, u, true)
		for thread, g := range u.Graphs {
			var l []int
			rare := 2 + r.IntN(6)
			for node := range g.Nodes {
				if r.IntN(rare) == 0 || slices.Contains(few[thread], node) && r.IntN(3) > 0 {
					l = append(l, node)
				}
			}
			x := tell(u, thread)
			isOpen := opened(t, u, thread, l)
			for _, node := range l {
				others := without(l, node)
				is, w := needed(t, u, thread, l, node), alone(t, u, thread, l, node)
				if is != opened(t, u, thread, others) {
					t.Error("Needed of", thread, l, node, is)
				}
				if want := x.alone(others, node); !slices.Equal(w, want) {
					t.Error("Alone of", thread, l, node, w, "not", want)
				}
				if !isOpen && is != (len(w) > 0) {
					t.Error(thread, l, node, is, w)
				}
				seen[fmt.Sprint("open ", isOpen, ", needed ", is, ", alone ", len(w) > 0)]++
				if len(w) > 0 && w[len(w)-1] != node {
					seen["goes on"]++
				}
			}
		}
		if t.Failed() {
			s, _ := cfg.Print(u)
			t.Fatal(s)
		}
	}
	for _, what := range []string{"open false, needed true, alone true", "open false, needed false, alone false", "open true, needed true, alone true", "open true, needed true, alone false", "goes on"} {
		if seen[what] < 150 {
			t.Error(what, seen[what])
		}
	}
}

// answers is all that the package tells of a unit with fences.
func answers(u api.Unit, l [][]int) string {
	all, a := fences.Place(u, false)
	few, b := fences.Place(u, true)
	n, c := fences.Cost(u, l)
	s := fmt.Sprint(all, a, few, b, n, c)
	for i := range u.Graphs {
		for _, node := range l[i] {
			is, why := fences.Needed(u, i, l[i], node)
			w, ok, no := fences.Alone(u, i, l[i], node)
			s += fmt.Sprint(is, why, w, ok, no)
		}
	}
	return s
}

// 12.4: answers are new memory, in all their lists; what is handed in is neither changed nor kept.
func TestNewMemory(t *testing.T) {
	const text = "shared x, y; lock l; thread a { x = 1; lock l { y = 2; } print x + y; } thread b { y = 1; while (x) { x = y; } }"
	u, same := unit(t, text), unit(t, text)
	l, own := [][]int{{0, 4, 5}, {1, 2, 3}}, [][]int{{0, 4, 5}, {1, 2, 3}}
	want := answers(u, l)
	for _, merge := range []bool{false, true} {
		p := place(t, u, merge)
		for i := range p {
			rest := fmt.Sprint(slices.Delete(slices.Clone(p), i, i+1))
			for n := range p[i] {
				p[i][n] = 77
			}
			_ = append(p[i], 99)
			if fmt.Sprint(slices.Delete(slices.Clone(p), i, i+1)) != rest {
				t.Error("two lists of Place are one")
			}
		}
	}
	for _, node := range l[1] {
		clear(alone(t, u, 1, l[1], node))
	}
	if answers(u, l) != want || !cfg.Same(u, same) || !slices.EqualFunc(l, own, slices.Equal) {
		t.Error("the unit, the fences, or an answer, is changed")
	}
	l[1][0] = 0
	if answers(u, own) != want {
		t.Error("fences are kept")
	}
}

// P3, P4: the same answers at each time, and to many that ask at one time; no goroutine is left.
func TestAlways(t *testing.T) {
	before := runtime.NumGoroutine()
	r := rand.New(rand.NewPCG(12, 4))
	for range 20 {
		u := grownUnit(t, r, 3)
		l := place(t, u, false)
		want := answers(u, l)
		done := make(chan string)
		for range 6 {
			go func() { done <- answers(u, l) }()
		}
		for range 6 {
			if got := <-done; got != want {
				t.Error(got, "not", want)
			}
		}
	}
	for range 1000 {
		if runtime.NumGoroutine() <= before {
			return
		}
		time.Sleep(time.Millisecond)
	}
	t.Error("goroutines are left")
}

// great is a unit of as many threads and nodes as may be: node by node, one kind and then the other, all of one variable.
func great(kinds ...api.NodeKind) api.Unit {
	u := api.Unit{Shared: []api.Decl{{Name: "x"}}}
	for i := range api.MaxThreads {
		g := api.Graph{Name: fmt.Sprint("t", i), Slots: 1}
		for node := range api.MaxNodes - 1 {
			g.Nodes = append(g.Nodes, api.Node{Kind: kinds[node%len(kinds)], Next: node + 1})
		}
		g.Nodes = append(g.Nodes, api.Node{Kind: api.NodeEnd})
		u.Graphs = append(u.Graphs, g)
	}
	return u
}

// P1: units as great as may be: fences that are all needed, and those of which one is enough.
func TestGreat(t *testing.T) {
	u := great(api.NodeStore, api.NodeLoad)
	all, few := place(t, u, false), place(t, u, true)
	if n := api.MaxNodes/2 - 1; len(all[7]) != n || len(few[7]) != n || cost(t, u, few...) != api.MaxThreads*n {
		t.Error(len(all[7]), len(few[7]))
	}
	u = great(api.NodeLoad)
	for _, g := range u.Graphs {
		g.Nodes[0].Kind = api.NodeStore
		g.Nodes[len(g.Nodes)-2] = api.Node{Kind: api.NodeBranch, Next: len(g.Nodes) - 1}
	}
	all, few = place(t, u, false), place(t, u, true)
	if len(all[7]) != api.MaxNodes-3 || !slices.Equal(few[7], []int{1}) || cost(t, u, all...) != api.MaxThreads*4*len(all[7]) {
		t.Error(len(all[7]), few[7])
	}
	if w := alone(t, u, 3, []int{1, api.MaxNodes - 1}, 1); !needed(t, u, 3, few[3], 1) || !slices.Equal(w, []int{0, 1}) {
		t.Error(w)
	}
	u = great(api.NodeSet)
	n := u.Graphs[1].Nodes
	n[0].Kind, n[len(n)-2].Kind, u.Graphs[0].Nodes[0].Kind = api.NodeStore, api.NodeLoad, api.NodeLoad
	if w := alone(t, u, 1, []int{2000}, 2000); len(w) != len(n)-1 {
		t.Error(len(w))
	}
}
