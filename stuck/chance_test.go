package stuck_test

import (
	"fmt"
	"math/rand/v2"
	"runtime"
	"slices"
	"strings"
	"testing"
	"time"

	"stile/api"
	"stile/cfg"
	"stile/explore"
	"stile/source"
	"stile/stuck"
)

// grown are statements by chance: much that takes locks (a letter each) within one another, seldom one within itself.
func grown(r *rand.Rand, wide int, locks, held string) string {
	s := ""
	for range 1 + r.IntN(2) {
		kind := r.IntN(10)
		free := strings.Map(func(l rune) rune {
			if strings.ContainsRune(held, l) && r.IntN(20) > 0 {
				return -1
			}
			return l
		}, locks)
		switch {
		case kind < 6 && wide > 0 && free != "":
			n := r.IntN(len(free))
			s += "lock " + free[n:n+1] + " {" + grown(r, wide-1, locks, held+free[n:n+1]) + "} "
		case kind == 6 && wide > 0:
			s += "if (x) {" + grown(r, wide-1, locks, held) + "} else {" + grown(r, wide-1, locks, held) + "} "
		case kind == 7 && wide > 0:
			s += "while (x == 1) {" + grown(r, wide-1, locks, held) + "} "
		default:
			s += []string{"x = 0; ", "x = 1; ", "print 1; ", "skip; ", ""}[r.IntN(5)]
		}
	}
	return s
}

// anyUnit is that of a program by chance, at times with links that lead elsewhere, such as no program has, and with nodes that are not reached.
func anyUnit(t *testing.T, r *rand.Rand) api.Unit {
	t.Helper()
	s := "shared x; lock l, m, k, n; "
	locks := []string{"lmk", "lm", "mknl", "klm", "k", ""}[r.IntN(6)]
	round := r.IntN(4) == 0
	for thread := range 1 + r.IntN(3) {
		s += "thread " + string(rune('a'+thread)) + " { "
		if round {
			at := r.IntN(3)
			s += "lock " + "lmkl"[at:at+1] + " {" + grown(r, 0, "", "") + "lock " + "lmkl"[at+1:at+2] + " { } } "
		} else {
			s += grown(r, 3, locks, "")
		}
		s += "} "
	}
	u := unit(t, s)
	for range r.IntN(2) * r.IntN(6) {
		nodes := u.Graphs[r.IntN(len(u.Graphs))].Nodes
		n := &nodes[r.IntN(len(nodes))]
		was := *n
		if n.Kind != api.NodeEnd {
			n.Next = r.IntN(len(nodes))
		}
		if why, _, _ := cfg.Check(u); why != api.OK {
			*n = was
		}
	}
	return u
}

// edgesOf are the edges by the chapter's words: found by going each way.
func edgesOf(u api.Unit) []api.Edge {
	var l []api.Edge
	for thread, g := range u.Graphs {
		seen := map[int]bool{}
		var visit func(node int, held []int)
		visit = func(node int, held []int) {
			if seen[node] {
				return
			}
			seen[node] = true
			switch n := g.Nodes[node]; n.Kind {
			case api.NodeEnd:
			case api.NodeLock:
				for lock := range u.Locks {
					if slices.Contains(held, lock) {
						l = append(l, api.Edge{Held: lock, Taken: n.Thing, At: api.Access{Thread: thread, Node: node}})
					}
				}
				visit(n.Next, append(slices.Clone(held), n.Thing))
			case api.NodeUnlock:
				visit(n.Next, held[:len(held)-1])
			case api.NodeBranch:
				visit(n.Next, held)
				visit(n.Else, held)
			default:
				visit(n.Next, held)
			}
		}
		visit(0, nil)
	}
	slices.SortFunc(l, func(a, b api.Edge) int {
		return slices.Compare([]int{a.At.Thread, a.At.Node, a.Held}, []int{b.At.Thread, b.At.Node, b.Held})
	})
	return l
}

// rounds are all lists of numbers below count, each once, of which each leads to the next one and the last one to the first, the shorter ones first, of one length as they stand.
func rounds(count int, leads func(a, b int) bool) [][]int {
	var l [][]int
	lists := [][]int{nil}
	for range count {
		var longer [][]int
		for _, list := range lists {
			for n := range count {
				if !slices.Contains(list, n) {
					longer = append(longer, append(slices.Clone(list), n))
				}
			}
		}
		lists = longer
		for _, list := range lists {
			is := true
			for at, n := range list {
				is = is && leads(n, list[(at+1)%len(list)])
			}
			if is {
				l = append(l, list)
			}
		}
	}
	return l
}

func node(u api.Unit, m *source.Machine, thread int) api.Node {
	return u.Graphs[thread].Nodes[m.At(thread)]
}

// waits tells by the words whether a thread waits for another one, or itself.
func waits(u api.Unit, m *source.Machine, thread, other int) bool {
	n := node(u, m, thread)
	return n.Kind == api.NodeLock && m.Holder(n.Thing) == other
}

// knotsOf are all knots, each as many times as it has threads.
func knotsOf(u api.Unit, m *source.Machine) [][]int {
	return rounds(len(u.Graphs), func(a, b int) bool { return waits(u, m, a, b) })
}

// knotOf is the one that is told.
func knotOf(u api.Unit, m *source.Machine) []int {
	for first := range u.Graphs {
		for _, l := range knotsOf(u, m) {
			if l[0] == first {
				return l
			}
		}
	}
	return nil
}

// stuckAt is the schedule to the first situation from which nothing goes on though not all have ended: all schedules are gone, the shorter ones first, but for those that come to where another one was.
func stuckAt(u api.Unit, m *source.Machine) []int {
	type spot struct {
		m *source.Machine
		l []int
	}
	seen := map[string]bool{m.Key(): true}
	for spots := []spot{{m, nil}}; len(spots) > 0; {
		var next []spot
		for _, s := range spots {
			if !s.m.Ended() && !slices.ContainsFunc(keys(u), s.m.Can) {
				return s.l
			}
			for thread := range u.Graphs {
				other := s.m.Copy()
				if _, why := other.Step(thread); why == api.OK && !seen[other.Key()] {
					seen[other.Key()] = true
					next = append(next, spot{other, append(slices.Clone(s.l), thread)})
				}
			}
		}
		spots = next
	}
	return nil
}

func keys(u api.Unit) []int {
	var l []int
	for thread := range u.Graphs {
		l = append(l, thread)
	}
	return l
}

func machine(t *testing.T, u api.Unit) *source.Machine {
	t.Helper()
	m, why := source.New(u)
	if why != api.OK {
		t.Fatal("New: error", why)
	}
	return m
}

// shown is a list that may be none, as found tells it.
func shown(l []int) string {
	if l == nil {
		return "none"
	}
	return fmt.Sprint(l)
}

// P24.1, P24.3, P24.5: units by chance, held against the chapter's words; what has no ring is never stuck.
func TestUnits(t *testing.T) {
	r := rand.New(rand.NewPCG(24, 1))
	seen := map[string]int{}
	for range 2000 {
		u := anyUnit(t, r)
		l := edges(t, u)
		if want := edgesOf(u); !slices.Equal(l, want) {
			t.Fatalf("Edges: %v, not %v", l, want)
		}
		var least []int
		if rings := rounds(len(u.Locks), func(a, b int) bool {
			return slices.ContainsFunc(l, func(e api.Edge) bool { return e.Held == a && e.Taken == b })
		}); len(rings) > 0 {
			least = rings[0]
		}
		if got := ring(t, u); got != shown(least) {
			t.Fatalf("Ring of %v: %s, not %s", l, got, shown(least))
		}
		seen[fmt.Sprint("ring of ", len(least))]++
		all, why := explore.Ends(u, 500)
		some, no := stuck.Stuck(u, 500)
		got, is, nor := stuck.Way(u, 500)
		if no != why || nor != why {
			t.Fatal(no, nor, "not error", why)
		}
		if why != api.OK {
			seen["too many"]++
			continue
		}
		want := slices.DeleteFunc(all, func(e api.End) bool { return e.Ended })
		if fmt.Sprint(some) != fmt.Sprint(want) {
			t.Fatal("Stuck:", some, "not", want)
		}
		way := stuckAt(u, machine(t, u))
		if !slices.Equal(got, way) || is != (way != nil) || is != (len(want) > 0) {
			t.Fatal("Way:", got, is, "not", way)
		}
		switch {
		case is && least == nil:
			t.Fatal("stuck by", got, "without a ring")
		case is:
			seen["stuck"]++
		case least != nil:
			seen["ring, not stuck"]++
		}
	}
	for _, what := range []string{"ring of 0", "ring of 1", "ring of 2", "ring of 3", "too many", "stuck", "ring, not stuck"} {
		if seen[what] < 30 {
			t.Error(what, seen)
		}
	}
}

// P24.2, P24.5 to P24.8: schedules by chance: knots, whose threads stay where they are; their edges.
func TestSchedules(t *testing.T) {
	r := rand.New(rand.NewPCG(24, 2))
	seen := map[string]int{}
	for range 12000 {
		u := anyUnit(t, r)
		l := make([]int, r.IntN(40))
		for at := range l {
			l[at] = r.IntN(len(u.Graphs)+2) - 1
		}
		m := machine(t, u)
		for _, thread := range l {
			m.Step(thread)
		}
		want := knotOf(u, m)
		if got := knot(t, u, l...); got != shown(want) {
			t.Fatalf("Knot of %v: %s, not %s", l, got, shown(want))
		}
		seen[fmt.Sprint("knot of ", len(want))]++
		over := !m.Ended() && !slices.ContainsFunc(keys(u), m.Can)
		if over {
			seen["stuck"]++
		}
		if over && want == nil {
			t.Fatal("stuck by", l, "without a knot")
		}
		if want == nil {
			continue
		}
		if ring(t, u) == "none" {
			t.Fatal(want, "is a knot by", l, "without a ring")
		}
		known := edges(t, u)
		for at, thread := range want {
			ahead := want[(at+len(want)-1)%len(want)]
			e := api.Edge{Held: node(u, m, ahead).Thing, Taken: node(u, m, thread).Thing, At: api.Access{Thread: thread, Node: m.At(thread)}}
			if !slices.Contains(known, e) {
				t.Fatal(e, "is no edge of", known)
			}
		}
		stands := places(m, want)
		for range 60 {
			thread := r.IntN(len(u.Graphs))
			m.Step(thread)
			l = append(l, thread)
		}
		if !slices.Equal(places(m, want), stands) || !slices.ContainsFunc(knotsOf(u, m), func(k []int) bool { return slices.Equal(k, want) }) {
			t.Fatal(want, "does not stay")
		}
		if got := knot(t, u, l...); got == "none" || got != shown(knotOf(u, m)) {
			t.Fatal(got, "behind", l)
		}
	}
	for what, least := range map[string]int{"knot of 0": 3000, "knot of 1": 200, "knot of 2": 300, "knot of 3": 50, "stuck": 500} {
		if seen[what] < least {
			t.Error(what, seen)
		}
	}
}

func places(m *source.Machine, threads []int) []int {
	var l []int
	for _, thread := range threads {
		l = append(l, m.At(thread))
	}
	return l
}

// answers is all that the package tells of a unit.
func answers(u api.Unit, l []int) string {
	e, w1 := stuck.Edges(u)
	r, isRing, w2 := stuck.Ring(u)
	k, isKnot, w3 := stuck.Knot(u, l)
	s, w4 := stuck.Stuck(u, 500)
	w, isWay, w5 := stuck.Way(u, 500)
	return fmt.Sprint(e, w1, r, isRing, w2, k, isKnot, w3, s, w4, w, isWay, w5)
}

// P24.4: answers are new memory, in all their lists; what is handed in is neither changed nor kept.
func TestNewMemory(t *testing.T) {
	r := rand.New(rand.NewPCG(24, 4))
	for range 200 {
		u := anyUnit(t, r)
		l := make([]int, 30)
		for at := range l {
			l[at] = r.IntN(len(u.Graphs) + 1)
		}
		given, want := fmt.Sprint(u, l), answers(u, l)
		e := edges(t, u)
		rings, _, _ := stuck.Ring(u)
		k, _, _ := stuck.Knot(u, l)
		s, _ := stuck.Stuck(u, 500)
		w, _, _ := stuck.Way(u, 500)
		for at := range s { // one list of an answer does not grow into another one
			kept := fmt.Sprint(s[at+1:])
			_ = append(s[at].Prints, api.Print{Thread: 7})
			_ = append(s[at].Memory, 77)
			clear(s[at].Prints)
			clear(s[at].Memory)
			if fmt.Sprint(s[at+1:]) != kept {
				t.Fatal("two lists of an answer are one")
			}
		}
		for _, list := range [][]int{rings, k, w} {
			for at := range list[:cap(list)] {
				list[:cap(list)][at] = 77
			}
		}
		clear(e[:cap(e)])
		clear(s[:cap(s)])
		if fmt.Sprint(u, l) != given || answers(u, l) != want {
			t.Fatal("an answer is another one's")
		}
		e = edges(t, u)
		rings, _, _ = stuck.Ring(u)
		k, _, _ = stuck.Knot(u, l)
		s, _ = stuck.Stuck(u, 500)
		w, _, _ = stuck.Way(u, 500)
		kept := fmt.Sprint(e, rings, k, s, w)
		clear(u.Shared)
		for thread := range u.Graphs {
			clear(u.Graphs[thread].Nodes)
		}
		clear(u.Graphs)
		clear(l)
		if fmt.Sprint(e, rings, k, s, w) != kept {
			t.Fatal("what is handed in is kept")
		}
	}
}

// P3, P4: the same answers at each time, and to many that ask at one time; no goroutine is left.
func TestAlways(t *testing.T) {
	before := runtime.NumGoroutine()
	r := rand.New(rand.NewPCG(24, 3))
	for range 20 {
		u := anyUnit(t, r)
		l := []int{0, 1, 0, 2, 1, 0, 2, 1, 0, 1}
		want := answers(u, l)
		done := make(chan string)
		for range 6 {
			go func() { done <- answers(u, l) }()
		}
		for range 6 {
			if <-done != want {
				t.Error("two answers to one question")
			}
		}
	}
	for range 1000 {
		if runtime.NumGoroutine() <= before {
			return
		}
		time.Sleep(time.Millisecond)
	}
	t.Error("goroutines are left")
}
