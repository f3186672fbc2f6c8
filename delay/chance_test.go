package delay_test

import (
	"fmt"
	"math/rand/v2"
	"runtime"
	"slices"
	"testing"
	"time"

	"stile/api"
	"stile/cfg"
	"stile/delay"
	"stile/lockset"
	"stile/source"
)

// grown is a thread's text by chance, of shared w, x, y, z, locks l, m, local r.
func grown(r *rand.Rand, wide int) string {
	pick := func(l ...string) string { return l[r.IntN(len(l))] }
	s := ""
	for range 1 + r.IntN(3) {
		kind := r.IntN(16)
		if wide == 0 {
			kind = 5 + r.IntN(11)
		}
		word := pick("0", "1", "x", "y", "r", "!r", "z - y", "w")
		switch kind {
		case 0, 1:
			s += "if (" + word + ") {" + grown(r, wide-1) + "} else {" + pick("", grown(r, wide-1)) + "} "
		case 2, 3:
			s += "while (" + word + ") {" + grown(r, wide-1) + "} "
		case 4:
			s += "lock " + pick("l", "m") + " {" + grown(r, wide-1) + "} "
		case 5:
			s += "r = swap(" + pick("x", "y", "z") + ", " + word + "); "
		case 6:
			s += pick("print "+word+"; ", "lock l { w = 1; } ", "lock m { } ")
		case 7, 8, 9, 10:
			s += pick("w", "x", "y", "z") + " = " + word + "; "
		default:
			s += "r = " + word + "; "
		}
	}
	return s
}

// grownUnit is a unit by chance; often with links that lead elsewhere, so that not all nodes are reached, and loops have many ways in.
func grownUnit(t *testing.T, r *rand.Rand, threads int) api.Unit {
	t.Helper()
	s := "shared w, x, y = 1, z; lock l, m; "
	for i := range threads {
		s += "thread " + string(rune('a'+i)) + " { local r; " + grown(r, 2) + "} "
	}
	u := unit(t, s)
	for range r.IntN(8) {
		nodes := u.Graphs[r.IntN(threads)].Nodes
		n := &nodes[r.IntN(len(nodes))]
		was := *n
		switch n.Kind {
		case api.NodeEnd:
		case api.NodeBranch:
			n.Else = r.IntN(len(nodes))
		default:
			n.Next = r.IntN(len(nodes))
		}
		if why, _, _ := cfg.Check(u); why != api.OK {
			*n = was
		}
	}
	return u
}

// someFences are fences by chance of a graph.
func someFences(r *rand.Rand, g api.Graph) []int {
	var l []int
	rare := 1 + r.IntN(8)
	for node := range g.Nodes {
		if r.IntN(rare) == 0 && rare < 8 {
			l = append(l, node)
		}
	}
	return l
}

// told is what the chapter's words say of a thread, read anew.
type told struct {
	g                          api.Graph
	store, load, drain, fenced []bool
}

func tell(u api.Unit, thread int, fences []int) told {
	classes, _ := lockset.Classes(u)
	g := u.Graphs[thread]
	n := len(g.Nodes)
	x := told{g, make([]bool, n), make([]bool, n), make([]bool, n), make([]bool, n)}
	seen := make([]bool, n)
	var come func(at int)
	come = func(at int) {
		if seen[at] {
			return
		}
		seen[at] = true
		switch n := g.Nodes[at]; n.Kind {
		case api.NodeUnlock:
			x.store[at] = true
		case api.NodeStore:
			x.store[at] = classes[n.Thing].Kind == api.ClassRacy
		case api.NodeLoad:
			x.load[at] = classes[n.Thing].Kind == api.ClassRacy
		case api.NodeSwap, api.NodeLock, api.NodePrint:
			x.drain[at] = true
		}
		for _, to := range x.behind(at) {
			come(to)
		}
	}
	come(0)
	for _, node := range fences {
		x.fenced[node] = true
	}
	return x
}

func (x told) behind(at int) []int {
	switch n := x.g.Nodes[at]; n.Kind {
	case api.NodeEnd:
		return nil
	case api.NodeBranch:
		return []int{n.Next, n.Else}
	default:
		return []int{n.Next}
	}
}

// from is, of each node to which an open way leads from a store, the best one: the shortest, of these that by the least nodes. All lengths are gone through, one after another.
func (x told) from(store int) map[int][]int {
	best := map[int][]int{}
	now := map[int][]int{store: {store}}
	for length := range len(x.g.Nodes) + 1 {
		next := map[int][]int{}
		for at, way := range now {
			if length > 0 && x.drain[at] {
				continue
			}
			for _, to := range x.behind(at) {
				if x.fenced[to] {
					continue
				}
				w := append(slices.Clone(way), to)
				if old, is := next[to]; !is || slices.Compare(w, old) < 0 {
					next[to] = w
				}
			}
		}
		for to, way := range next {
			if _, is := best[to]; !is {
				best[to] = way
			}
		}
		now = next
	}
	return best
}

// 11.1 to 11.4, 11.6, 11.7, 11.9: units by chance held against the chapter's words, and against what follows from them.
func TestAgainstTold(t *testing.T) {
	r := rand.New(rand.NewPCG(11, 1))
	seen := map[string]int{}
	for range 1200 {
		u := grownUnit(t, r, 2+r.IntN(2))
		var all, ahead [][]int
		isSafe := true
		for thread, g := range u.Graphs {
			fences := someFences(r, g)
			x := tell(u, thread, fences)
			want := make([]bool, len(g.Nodes))
			var to []int
			for from, is := range x.store {
				if is {
					for node := range x.from(from) {
						want[node] = true
					}
				}
			}
			var racy []int
			for node, is := range want {
				if is && x.load[node] {
					to = append(to, node)
				}
				if x.load[node] {
					racy = append(racy, node)
				}
			}
			if l := open(t, u, thread, fences...); !slices.Equal(l, want) {
				t.Error("Open of", thread, fences, marks(l), "not", marks(want))
			}
			if l := loads(t, u, thread, fences...); !slices.Equal(l, to) {
				t.Error("Loads of", thread, fences, l, "not", to)
			}
			paired(t, u, thread)
			more(t, r, u, thread, fences)
			all = append(all, fences)
			ahead = append(ahead, racy)
			isSafe = isSafe && len(to) == 0
			seen[fmt.Sprint("fences ", len(fences) > 0, ", loads ", len(to) > 0)]++
		}
		if safe(t, u, all...) != isSafe || !safe(t, u, ahead...) {
			t.Error("Safe with", all, "or", ahead)
		}
		seen[fmt.Sprint("safe ", isSafe)]++
		if t.Failed() {
			s, _ := cfg.Print(u)
			t.Fatal(s)
		}
	}
	for _, what := range []string{"fences true, loads true", "fences true, loads false", "fences false, loads true", "fences false, loads false", "safe true", "safe false"} {
		if seen[what] < 100 {
			t.Error(what, seen[what])
		}
	}
}

// paired holds Pairs, Way and Loads without fences against the chapter's words.
func paired(t *testing.T, u api.Unit, thread int) {
	t.Helper()
	x := tell(u, thread, nil)
	var want []api.Delay
	to := map[int]int{}
	for from := range x.g.Nodes {
		var best map[int][]int
		if x.store[from] {
			best = x.from(from)
		}
		for node := range x.g.Nodes {
			var w []int
			if x.load[node] && best[node] != nil {
				w = best[node]
				want = append(want, api.Delay{From: from, To: node})
				to[node]++
			}
			if !x.store[from] && !x.load[node] && (from+node)%7 > 0 {
				continue // some of the many that are neither
			}
			l := way(t, u, thread, from, node)
			if !slices.Equal(l, w) {
				t.Error("Way of", thread, from, node, l, "not", w)
			}
			s := slices.Sorted(slices.Values(l))
			if len(slices.Compact(s)) != len(l) {
				t.Error(l, "comes to a node twice")
			}
		}
	}
	if l := pairs(t, u, thread); !slices.Equal(l, want) {
		t.Error("Pairs of", thread, l, "not", want)
	}
	for _, node := range loads(t, u, thread) {
		if to[node] == 0 {
			t.Error(node, "is of no pair")
		}
		delete(to, node)
	}
	if len(to) != 0 {
		t.Error(to, "are no loads")
	}
}

// more holds that with a further fence no more is open.
func more(t *testing.T, r *rand.Rand, u api.Unit, thread int, fences []int) {
	t.Helper()
	before := open(t, u, thread, fences...)
	node := r.IntN(len(before))
	l := slices.Compact(slices.Sorted(slices.Values(append(slices.Clone(fences), node))))
	for i, is := range open(t, u, thread, l...) {
		if is && (!before[i] || i == node) {
			t.Error(i, "is open with", l, "not with", fences)
		}
	}
}

// 11.8: runs by chance: where a thread comes to a racy load while a store waits, Open is true of it.
func TestRuns(t *testing.T) {
	r := rand.New(rand.NewPCG(11, 8))
	seen := map[bool]int{}
	for range 4000 {
		u := grownUnit(t, r, 2)
		x := make([]told, 2)
		isOpen := make([][]bool, 2)
		for i, g := range u.Graphs {
			fences := someFences(r, g)
			x[i] = tell(u, i, fences)
			isOpen[i] = open(t, u, i, fences...)
		}
		m, _ := source.New(u)
		waits := [2]bool{}
		for range 100 {
			i := r.IntN(2)
			at := m.At(i)
			if x[i].fenced[at] {
				waits[i] = false
			}
			if waits[i] && !isOpen[i][at] {
				s, _ := cfg.Print(u)
				t.Fatal(s, i, at)
			}
			if x[i].load[at] {
				seen[waits[i]]++
			}
			if _, why := m.Step(i); why != api.OK {
				continue
			}
			waits[i] = (waits[i] || x[i].store[at]) && !x[i].drain[at]
		}
	}
	if seen[true] < 2000 || seen[false] < 2000 {
		t.Error(seen)
	}
}

// answers is all that the package tells of a unit with fences.
func answers(u api.Unit, fences [][]int) string {
	is, why := delay.Safe(u, fences)
	s := fmt.Sprint(is, why)
	for i, g := range u.Graphs {
		o, a := delay.Open(u, i, fences[i])
		l, b := delay.Loads(u, i, fences[i])
		p, c := delay.Pairs(u, i)
		s += fmt.Sprint(o, a, l, b, p, c)
		for _, x := range append(p, api.Delay{From: 0, To: len(g.Nodes) - 1}, api.Delay{From: -1}) {
			w, is, why := delay.Way(u, i, x.From, x.To)
			s += fmt.Sprint(w, is, why)
		}
	}
	return s
}

// 11.5: answers are new memory; what is handed in is neither changed nor kept.
func TestNewMemory(t *testing.T) {
	const text = "shared x, y; lock l; thread a { x = 1; lock l { y = 2; } print x + y; } thread b { y = 1; while (x) { x = y; } }"
	u, same := unit(t, text), unit(t, text)
	fences := [][]int{{0, 4, 5}, {1}}
	own := [][]int{{0, 4, 5}, {1}}
	want := answers(u, fences)
	clear(open(t, u, 0, fences[0]...))
	for _, l := range [][]int{loads(t, u, 0, 0), way(t, u, 0, 3, 5)} {
		for i := range l {
			l[i] = 77
		}
		_ = append(l[:0:cap(l)], 99)
	}
	clear(pairs(t, u, 0))
	if answers(u, fences) != want || !cfg.Same(u, same) || !slices.EqualFunc(fences, own, slices.Equal) {
		t.Error("the unit, the fences, or an answer, is changed")
	}
	fences[0][1] = 5
	if answers(u, own) != want {
		t.Error("fences are kept")
	}
}

// P3, P4: the same answers at each time, and to many that ask at one time; no goroutine is left.
func TestAlways(t *testing.T) {
	before := runtime.NumGoroutine()
	r := rand.New(rand.NewPCG(11, 3))
	for range 20 {
		u := grownUnit(t, r, 3)
		var fences [][]int
		for _, g := range u.Graphs {
			fences = append(fences, someFences(r, g))
		}
		want := answers(u, fences)
		done := make(chan string)
		for range 6 {
			go func() { done <- answers(u, fences) }()
		}
		for range 6 {
			if got := <-done; got != want {
				t.Error(got, "not", want)
			}
		}
	}
	for range 1000 {
		if runtime.NumGoroutine() <= before {
			return
		}
		time.Sleep(time.Millisecond)
	}
	t.Error("goroutines are left")
}

// P1: threads of as many nodes as may be: as many stores as there can be, as many loads, and branches that lead anywhere.
func TestGreat(t *testing.T) {
	const count = api.MaxNodes - 1
	u := chain(append(times(api.NodeStore, count-1), api.NodeLoad)...)
	if l, w := pairs(t, u, 0), way(t, u, 0, 0, count-1); len(l) != count-1 || len(w) != count || w[count-2] != count-2 {
		t.Error(len(l), len(w))
	}
	u = chain(append([]api.NodeKind{api.NodeStore}, times(api.NodeLoad, count-1)...)...)
	if l := pairs(t, u, 0); len(l) != count-1 || len(loads(t, u, 0)) != count-1 || len(loads(t, u, 0, 1)) != 0 {
		t.Error(len(l))
	}
	r := rand.New(rand.NewPCG(11, 4))
	u = chain(append(times(api.NodeStore, 200), append(times(api.NodeBranch, count-202), api.NodeLoad, api.NodeLoad)...)...)
	for range api.MaxThreads - 2 {
		u.Graphs = append(u.Graphs, api.Graph{Name: fmt.Sprint("t", len(u.Graphs)), Slots: 1, Nodes: slices.Clone(u.Graphs[0].Nodes)})
	}
	var fences [][]int
	for i, g := range u.Graphs {
		for at := range g.Nodes[:len(g.Nodes)-1] {
			n := &g.Nodes[at]
			n.Next = r.IntN(len(g.Nodes))
			if n.Kind == api.NodeBranch {
				n.Else = r.IntN(len(g.Nodes))
			}
		}
		fences = append(fences, loads(t, u, i))
	}
	if !safe(t, u, fences...) {
		t.Error("not safe")
	}
	for i := range u.Graphs {
		l := pairs(t, u, i)
		for _, x := range l[:min(len(l), 3)] {
			if w := way(t, u, i, x.From, x.To); w[0] != x.From || w[len(w)-1] != x.To {
				t.Error(x, w)
			}
		}
	}
}
