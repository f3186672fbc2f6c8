package explore_test

import (
	"fmt"
	"math/rand/v2"
	"runtime"
	"slices"
	"testing"
	"time"

	"stile/api"
	"stile/cfg"
	"stile/explore"
	"stile/source"
	"stile/words"
)

// grown is a thread's text by chance, of shared x, y, locks l, m, local r.
func grown(r *rand.Rand, wide int) string {
	pick := func(l ...string) string { return l[r.IntN(len(l))] }
	s := ""
	for range 1 + r.IntN(2) {
		kind := r.IntN(9)
		if wide == 0 {
			kind = 4 + r.IntN(5)
		}
		word := pick("0", "1", "x", "y", "r", "!r", "x - y")
		switch kind {
		case 0:
			s += "if (" + word + ") {" + grown(r, wide-1) + "} "
		case 1:
			s += "while (" + word + ") {" + grown(r, wide-1) + "} "
		case 2, 3:
			s += "lock " + pick("l", "m") + " {" + grown(r, wide-1) + "} "
		case 4, 5:
			s += pick("x", "y", "r") + " = " + word + "; "
		case 6:
			s += pick("x", "r") + " = swap(" + pick("x", "y") + ", " + word + "); "
		default:
			s += "print " + word + "; "
		}
	}
	return s
}

func grownUnit(t *testing.T, r *rand.Rand) api.Unit {
	s := "shared x, y = 1; lock l, m; "
	for i := range 1 + r.IntN(3) {
		s += "thread " + string(rune('a'+i)) + " { local r; " + grown(r, 2) + "} "
	}
	return unit(t, s)
}

// made is a right unit by chance, such as no program has: links lead anywhere.
func made(r *rand.Rand) api.Unit {
	for {
		u := api.Unit{Shared: []api.Decl{{Name: "x", Word: r.Int64N(3) - 1}}, Locks: []api.Decl{{Name: "l"}, {Name: "m"}}}
		for i := range r.IntN(4) {
			g := api.Graph{Name: string(rune('a' + i)), Slots: 1}
			count := 1 + r.IntN(5)
			for range count {
				value := api.Value{Word: r.Int64N(3) - 1}
				if r.IntN(2) == 0 {
					value = api.Value{IsSlot: true}
				}
				n := api.Node{Kind: api.NodeKind(1 + r.IntN(int(api.NodeCount)-1)), Next: r.IntN(count)}
				switch n.Kind {
				case api.NodeSet:
					n.A, n.Op = value, api.OpNot
				case api.NodeStore, api.NodeSwap, api.NodePrint:
					n.A = value
				case api.NodeLock, api.NodeUnlock:
					n.Thing = r.IntN(2)
				case api.NodeBranch:
					n.A, n.Else = value, r.IntN(count)
				case api.NodeEnd:
					n.Next = 0
				}
				g.Nodes = append(g.Nodes, n)
			}
			u.Graphs = append(u.Graphs, g)
		}
		if why, _, _ := cfg.Check(u); why == api.OK {
			return u
		}
	}
}

// told is what the chapter says of a unit, read anew: of each situation, by its text, the best schedule to it, and how it stands.
type told struct {
	best     map[string][]int
	machines map[string]*source.Machine
}

// better: the shorter one; of these the one with the least number where they part.
func better(a, b []int) bool {
	if len(a) != len(b) {
		return len(a) < len(b)
	}
	return slices.Compare(a, b) < 0
}

// tell goes on till no schedule gets better; false, if there are many situations.
func tell(u api.Unit, most int) (told, bool) {
	m, _ := source.New(u)
	x := told{map[string][]int{m.Key(): {}}, map[string]*source.Machine{m.Key(): m}}
	for again := true; again; {
		again = false
		for key, m := range x.machines {
			for thread := range u.Graphs {
				c := m.Copy()
				if _, why := c.Step(thread); why != api.OK {
					continue
				}
				to, way := c.Key(), append(slices.Clone(x.best[key]), thread)
				old, is := x.best[to]
				if !is || better(way, old) {
					x.best[to], x.machines[to] = way, c
					again = true
				}
				if len(x.best) > most {
					return told{}, false
				}
			}
		}
	}
	return x, true
}

func (x told) isEnd(key string, u api.Unit) bool {
	for thread := range u.Graphs {
		if x.machines[key].Can(thread) {
			return false
		}
	}
	return true
}

// ways is of each end, written, the best schedule to it.
func (x told) ways(u api.Unit) map[string][]int {
	l := map[string][]int{}
	for key, m := range x.machines {
		if !x.isEnd(key, u) {
			continue
		}
		s := shown(api.End{Prints: m.Prints(), Memory: m.Memory(), Ended: m.Ended()})
		if old, is := l[s]; !is || better(x.best[key], old) {
			l[s] = x.best[key]
		}
	}
	return l
}

// 8.1, 8.2, 8.6: units by chance: Count, Ends, Way and Shows are what the chapter says.
func TestAgainstTold(t *testing.T) {
	r := rand.New(rand.NewPCG(8, 1))
	seen := map[string]int{}
	for range 1500 {
		u := made(r)
		if r.IntN(2) == 0 {
			u = grownUnit(t, r)
		}
		const most = 160
		x, few := tell(u, most)
		if !few {
			refused(t, u, most, api.ErrMany)
			seen["many"]++
			continue
		}
		count := len(x.best)
		if n, why := explore.Count(u, count); n != count || why != api.OK {
			t.Errorf("Count: %d, error %d, not %d", n, why, count)
		}
		if count > 1 {
			refused(t, u, count-1, api.ErrMany)
		}
		l := ends(t, u, count+r.IntN(2))
		want := x.ways(u)
		if len(l) != len(want) {
			t.Errorf("%d ends, not %d", len(l), len(want))
		}
		for i, e := range l {
			if i > 0 && explore.Compare(l[i-1], e) != -1 {
				t.Error("not in order:", shown(l...))
			}
			way, ok, why := explore.Way(u, count, e)
			if known, is := want[shown(e)]; !is || !ok || why != api.OK || !slices.Equal(way, known) {
				t.Error(shown(e), way, ok, why, "not", known)
			}
			goes(t, u, way, e)
			seen[fmt.Sprint("ended ", e.Ended)]++
			e.Ended = !e.Ended
			if _, is := want[shown(e)]; !is {
				if _, ok, _ := explore.Way(u, count, e); ok {
					t.Error("a way to", shown(e))
				}
			}
		}
		showsTold(t, r, u, x)
		seen[fmt.Sprint("ends ", min(len(l), 3))]++
		if t.Failed() {
			s, _ := cfg.Print(u)
			t.Fatal(s)
		}
	}
	for _, what := range []string{"many", "ended true", "ended false", "ends 0", "ends 1", "ends 2", "ends 3"} {
		if seen[what] < 30 {
			t.Error(what, seen[what])
		}
	}
}

// showsTold asks for what some situation has printed, and for the like.
func showsTold(t *testing.T, r *rand.Rand, u api.Unit, x told) {
	t.Helper()
	known := map[string]bool{}
	var lists [][]api.Print
	for _, m := range x.machines {
		s := fmt.Sprint(m.Prints())
		if !known[s] {
			known[s] = true
			lists = append(lists, m.Prints())
		}
	}
	slices.SortFunc(lists, func(a, b []api.Print) int { return slices.Compare([]byte(fmt.Sprint(a)), []byte(fmt.Sprint(b))) })
	for _, l := range lists[:min(len(lists), 6)] {
		for n := range len(l) + 1 {
			if !known[fmt.Sprint(l[:n])] {
				t.Error("a beginning of what was printed, not printed") // 8.8
			}
		}
		other := append(slices.Clone(l), api.Print{Thread: r.IntN(3), Word: r.Int64N(3) - 1})
		if r.IntN(2) == 0 {
			other[r.IntN(len(other))].Word++
		}
		for _, l := range [][]api.Print{l, other, l[min(1, len(l)):]} {
			if ok, why := explore.Shows(u, len(x.best), l); ok != known[fmt.Sprint(l)] || why != api.OK {
				t.Errorf("Shows %v: %v, error %d", l, ok, why)
			}
		}
	}
}

// 8.5: whatever is run till no thread can step is one of the ends.
func TestClosed(t *testing.T) {
	r := rand.New(rand.NewPCG(8, 5))
	over := 0
	for range 400 {
		u := grownUnit(t, r)
		l, why := explore.Ends(u, 5000)
		if why != api.OK {
			continue
		}
		for range 20 {
			m, _ := source.New(u)
			for range 200 {
				m.Step(r.IntN(len(u.Graphs)))
			}
			e := api.End{Prints: m.Prints(), Memory: m.Memory(), Ended: m.Ended()}
			if m.Ended() || len(m.Blocked()) == len(u.Graphs) {
				over++
				if !slices.ContainsFunc(l, func(x api.End) bool { return explore.Same(x, e) }) {
					t.Error(shown(e), "is none of", shown(l...))
				}
			}
		}
	}
	if over < 2000 {
		t.Error(over)
	}
}

// 8.7: one thread has one end at most, which it comes to by stepping.
func TestAlone(t *testing.T) {
	r := rand.New(rand.NewPCG(8, 7))
	seen := [2]int{}
	for range 1500 {
		u := unit(t, "shared x, y = 1; lock l, m; thread a { local r; "+grown(r, 2)+"}")
		l, why := explore.Ends(u, 2000)
		if why == api.ErrMany {
			continue
		}
		if why != api.OK || len(l) > 1 {
			t.Error(why, shown(l...))
		}
		seen[len(l)]++
	}
	if seen[0] < 50 || seen[1] < 500 {
		t.Error(seen)
	}
}

// 8.3: Compare of ends by chance: one order, in which those that are Same stand at one place.
func TestOrder(t *testing.T) {
	r := rand.New(rand.NewPCG(8, 3))
	some := func() api.End {
		var e api.End
		for range r.IntN(3) {
			e.Prints = append(e.Prints, api.Print{Thread: r.IntN(2), Word: r.Int64N(2)})
		}
		for range r.IntN(3) {
			e.Memory = append(e.Memory, r.Int64N(2))
		}
		e.Ended = r.IntN(2) == 0
		return e
	}
	for range 20000 {
		a, b, c := some(), some(), some()
		ab, bc, ac := explore.Compare(a, b), explore.Compare(b, c), explore.Compare(a, c)
		if ab != -explore.Compare(b, a) || ab <= 0 && bc <= 0 && ac > 0 || (ab == 0) != (shown(a) == shown(b)) || explore.Same(a, b) != (ab == 0) || ab == 0 && ac != bc {
			t.Fatal(shown(a, b, c), ab, bc, ac)
		}
	}
}

// 8.4: what was handed in is neither changed nor kept; answers are new.
func TestNewMemory(t *testing.T) {
	text := "shared x, y; lock l; thread a { x = 1; print y; lock l { print 3; } } thread b { y = 1; print x; }"
	u, same := unit(t, text), unit(t, text)
	l := ends(t, u, 5000)
	want := shown(l...)
	e := l[2]
	before := shown(e)
	way, _, _ := explore.Way(u, 5000, e)
	first := fmt.Sprint(way)
	prints := slices.Clone(e.Prints)
	explore.Shows(u, 5000, prints)
	explore.Count(u, 5000)
	if !cfg.Same(u, same) || shown(e) != before || !slices.Equal(prints, e.Prints) || shown(l...) != want {
		t.Error("something that was handed in is changed")
	}
	for i := range way {
		way[i] = 9
	}
	for i := range l {
		// Of one end all is changed: no other one, and no later answer, is to have it.
		rest := shown(slices.Delete(slices.Clone(l), i, i+1)...)
		clear(append(l[i].Prints, api.Print{Thread: 9, Word: 9}))
		clear(append(l[i].Memory, 9))
		for n := range l[i].Memory {
			l[i].Memory[n] = 77
		}
		for n := range l[i].Prints {
			l[i].Prints[n] = api.Print{Thread: 77}
		}
		if shown(slices.Delete(slices.Clone(l), i, i+1)...) != rest {
			t.Error("two ends share a list")
		}
	}
	again := ends(t, u, 5000)
	if shown(again...) != want {
		t.Error("another answer than before")
	}
	if way, _, _ := explore.Way(u, 5000, again[2]); fmt.Sprint(way) != first {
		t.Error(way, "not", first)
	}
}

// P3, P4: the same answers at each time, and from many at one time; no goroutine is left.
func TestAlways(t *testing.T) {
	before := runtime.NumGoroutine()
	u := unit(t, "shared x, y; lock l; thread a { local r; x = 1; lock l { r = y; } print r; } thread b { y = 1; lock l { print x + "+words.Print(40)+"; } }")
	tell := func() string {
		n, why := explore.Count(u, 9000)
		l, no := explore.Ends(u, 9000)
		all := fmt.Sprint(n, why, shown(l...), no)
		for _, e := range l {
			way, ok, why := explore.Way(u, 9000, e)
			shows, no := explore.Shows(u, 9000, e.Prints)
			all += fmt.Sprint(way, ok, why, shows, no)
		}
		return all
	}
	done := make(chan string)
	for range 6 {
		go func() { done <- tell() }()
	}
	want := tell()
	for range 6 {
		if <-done != want {
			t.Error("two answers to one question")
		}
	}
	for range 1000 {
		if runtime.NumGoroutine() <= before {
			return
		}
		time.Sleep(time.Millisecond)
	}
	t.Error("goroutines are left")
}
