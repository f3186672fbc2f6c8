package dead_test

import (
	"fmt"
	"math/rand/v2"
	"runtime"
	"slices"
	"testing"
	"time"

	"stile/api"
	"stile/cfg"
	"stile/dead"
	"stile/explore"
	"stile/fold"
	"stile/lockset"
	"stile/source"
	"stile/words"
)

// grown is a thread's text by chance, of shared w (guarded, where all touch it under l), x and one of the thread's own, locks l, m, locals r, s.
func grown(r *rand.Rand, own string, wide int) string {
	pick := func(l ...string) string { return l[r.IntN(len(l))] }
	s := ""
	for range 1 + r.IntN(3) {
		kind := r.IntN(16)
		if wide == 0 {
			kind = 4 + r.IntN(12)
		}
		word := pick("0", "1", "2", "x", own, "r", "s", "!r", "s - r")
		switch kind {
		case 0, 1:
			s += "if (" + word + ") {" + pick("", grown(r, own, wide-1)) + "} else {" + pick("", grown(r, own, wide-1)) + "} "
		case 2:
			s += "while (" + word + ") {" + grown(r, own, wide-1) + "} "
		case 3:
			s += "lock " + pick("l", "m") + " {" + grown(r, own, wide-1) + "} "
		case 4:
			s += pick("r", "s") + " = swap(" + pick("x", own) + ", " + word + "); "
		case 5:
			s += "lock l { " + pick("w = 1; ", "w = r; ", "r = w; ", "s = w; ") + "} "
		case 6:
			s += pick("print "+word, "x = "+word) + "; "
		case 7, 8, 9, 10:
			s += own + " = " + word + "; "
		default:
			s += pick("r", "s") + " = " + word + "; "
		}
	}
	return s
}

func grownUnit(t *testing.T, r *rand.Rand, threads int) api.Unit {
	t.Helper()
	s := "shared w, x = 1"
	for i := range threads {
		s += fmt.Sprint(", p", i)
	}
	s += "; lock l, m; "
	for i := range threads {
		s += "thread " + string(rune('a'+i)) + " { local r, s; " + grown(r, fmt.Sprint("p", i), 2) + "} "
	}
	u := unit(t, s)
	for range r.IntN(6) {
		nodes := u.Graphs[r.IntN(threads)].Nodes
		n := &nodes[r.IntN(len(nodes))]
		was := *n
		switch n.Kind {
		case api.NodeEnd:
		case api.NodeBranch:
			n.Else = r.IntN(len(nodes))
		default:
			n.Next = r.IntN(len(nodes))
		}
		if why, _, _ := cfg.Check(u); why != api.OK {
			*n = was
		}
	}
	return u
}

// madeUnit is a unit by chance that no text makes, full of rings: one goes on to what is next, or anywhere.
func madeUnit(r *rand.Rand, threads int) api.Unit {
	u := api.Unit{Shared: []api.Decl{{Name: "x", Word: 2}, {Name: "y"}, {Name: "z"}}}
	for i := range threads {
		g := api.Graph{Name: string(rune('a' + i)), Slots: 3}
		count := 1 + r.IntN(10)
		value := func() api.Value {
			if r.IntN(3) == 0 {
				return word(r.Int64N(3))
			}
			return slot(r.IntN(3))
		}
		for at := range count {
			n := api.Node{Next: min(at+1, count-1), Origin: at}
			if r.IntN(3) == 0 {
				n.Next = r.IntN(count)
			}
			switch r.IntN(12) {
			case 0, 1, 2, 3:
				n.Kind, n.Slot, n.A = api.NodeSet, r.IntN(3), value()
				n.Op = []api.Op{api.OpNone, api.OpNone, api.OpAdd, api.OpLess, api.OpNot}[r.IntN(5)]
				if words.Two(n.Op) {
					n.B = value()
				}
			case 4, 5:
				n.Kind, n.Slot, n.Thing = api.NodeLoad, r.IntN(3), r.IntN(3)
			case 6, 7:
				n.Kind, n.A, n.Thing = api.NodeStore, value(), r.IntN(3)
			case 8, 9:
				n.Kind, n.A, n.Else = api.NodeBranch, value(), min(at+r.IntN(3), count-1)
			case 10:
				n.Kind, n.A = api.NodePrint, value()
				if r.IntN(3) == 0 {
					n.Kind, n.Slot, n.Thing = api.NodeSwap, r.IntN(3), r.IntN(3)
				}
			default:
				n.Kind, n.Next = api.NodeEnd, 0
			}
			g.Nodes = append(g.Nodes, n)
		}
		u.Graphs = append(u.Graphs, g)
	}
	return u
}

func anyUnit(t *testing.T, r *rand.Rand, threads int) api.Unit {
	t.Helper()
	if r.IntN(2) == 0 {
		return madeUnit(r, threads)
	}
	return grownUnit(t, r, threads)
}

// told is what the chapter's words say of a thread, read anew.
type told struct {
	u       api.Unit
	thread  int
	nodes   []api.Node
	classes []api.Class
	reached []bool
}

func tell(u api.Unit, thread int) *told {
	classes, _ := lockset.Classes(u)
	nodes := u.Graphs[thread].Nodes
	x := &told{u, thread, nodes, classes, make([]bool, len(nodes))}
	x.onWay(0, func(api.Node) bool { return false }, func(at int) bool {
		x.reached[at] = true
		return false
	})
	return x
}

func to(n api.Node) []int {
	switch n.Kind {
	case api.NodeEnd:
		return nil
	case api.NodeBranch:
		return []int{n.Next, n.Else}
	}
	return []int{n.Next}
}

// onWay tells whether from a node on, itself too, something is found, before what stops the way.
func (x *told) onWay(from int, stops func(n api.Node) bool, found func(at int) bool) bool {
	seen := map[int]bool{}
	var come func(at int) bool
	come = func(at int) bool {
		if seen[at] {
			return false
		}
		seen[at] = true
		if found(at) {
			return true
		}
		return !stops(x.nodes[at]) && slices.ContainsFunc(to(x.nodes[at]), come)
	}
	return come(from)
}

func (x *told) reads(at, number int) bool {
	n := x.nodes[at]
	switch n.Kind {
	case api.NodeSet, api.NodeStore, api.NodeSwap, api.NodePrint, api.NodeBranch:
		return n.A == slot(number) || words.Two(n.Op) && n.B == slot(number)
	}
	return false
}

func sets(n api.Node, number int) bool {
	return (n.Kind == api.NodeSet || n.Kind == api.NodeLoad || n.Kind == api.NodeSwap) && n.Slot == number
}

func (x *told) isLive(at, number int) bool {
	return x.onWay(at, func(n api.Node) bool { return sets(n, number) }, func(at int) bool { return x.reads(at, number) })
}

func (x *told) isOwn(thing int) bool {
	return x.classes[thing].Kind == api.ClassPrivate && x.classes[thing].Thread == x.thread
}

func (x *told) waits(at, thing int) bool {
	return x.isOwn(thing) && x.onWay(at, func(n api.Node) bool { return n.Kind == api.NodeStore && n.Thing == thing }, func(at int) bool {
		n := x.nodes[at]
		return n.Kind == api.NodeEnd || n.Kind == api.NodeLock || (n.Kind == api.NodeLoad || n.Kind == api.NodeSwap) && n.Thing == thing
	})
}

// isSuch is what makes a node idle, but for rings.
func (x *told) isSuch(at int) bool {
	n := x.nodes[at]
	if !x.reached[at] {
		return false
	}
	switch n.Kind {
	case api.NodeSet:
		return !x.isLive(n.Next, n.Slot) || n.Op == api.OpNone && n.A == slot(n.Slot)
	case api.NodeLoad:
		return x.classes[n.Thing].Kind != api.ClassRacy && !x.isLive(n.Next, n.Slot)
	case api.NodeStore:
		return x.isOwn(n.Thing) && !x.waits(n.Next, n.Thing)
	case api.NodeBranch:
		return n.Next == n.Else
	}
	return false
}

func (x *told) isIdle(at int) bool {
	if !x.isSuch(at) {
		return false
	}
	on := x.nodes[at].Next
	for range x.nodes {
		if on == at {
			return false
		}
		if !x.isSuch(on) {
			return true
		}
		on = x.nodes[on].Next
	}
	return true
}

func (x *told) heir(at int) int {
	for x.isIdle(at) {
		at = x.nodes[at].Next
	}
	return at
}

func (x *told) once() []api.Node {
	order := []int{x.heir(0)}
	for at := range x.nodes {
		if x.reached[at] && !x.isIdle(at) && at != order[0] {
			order = append(order, at)
		}
	}
	var l []api.Node
	for _, at := range order {
		n := x.nodes[at]
		if n.Kind != api.NodeEnd {
			n.Next = slices.Index(order, x.heir(n.Next))
		}
		if n.Kind == api.NodeBranch {
			n.Else = slices.Index(order, x.heir(n.Else))
		}
		l = append(l, n)
	}
	return l
}

// onced is a unit behind Once, by the chapter's words.
func onced(u api.Unit) api.Unit {
	v := u
	v.Graphs = slices.Clone(u.Graphs)
	for thread := range v.Graphs {
		v.Graphs[thread].Nodes = tell(u, thread).once()
	}
	return v
}

// 14.1, 14.2, 14.6 to 14.8: units by chance, held against the chapter's words.
func TestByChance(t *testing.T) {
	r := rand.New(rand.NewPCG(14, 1))
	seen := map[string]int{}
	for range 5000 {
		u := anyUnit(t, r, 1+r.IntN(3))
		for thread, g := range u.Graphs {
			x := tell(u, thread)
			slots, things, idles := live(t, u, thread), waits(t, u, thread), idle(t, u, thread)
			for at, n := range g.Nodes {
				for number := range g.Slots {
					if slots[at][number] != x.isLive(at, number) {
						t.Error("Live of", thread, at, number, slots[at][number])
					}
					if x.reads(at, number) && !slots[at][number] {
						t.Error("not live, but read:", thread, at, number)
					}
				}
				for thing := range u.Shared {
					if things[at][thing] != x.waits(at, thing) {
						t.Error("Waits of", thread, at, thing, things[at][thing])
					}
				}
				if idles[at] != x.isIdle(at) {
					t.Error("Idle of", thread, at, idles[at])
				}
				if idles[at] {
					seen[fmt.Sprint("idle ", n.Kind)]++
				}
				if x.isSuch(at) && !idles[at] {
					seen["in a ring"]++
				}
				if !x.reached[at] {
					seen["not reached"]++
				}
			}
			if len(slots) != len(g.Nodes) || len(things) != len(g.Nodes) || len(idles) != len(g.Nodes) {
				t.Error("not of each node")
			}
		}
		v, w := once(t, u), onced(u)
		if !cfg.Same(v, w) {
			t.Error("Once is", v, "not", w)
		}
		times := 0
		for before := u; !cfg.Same(before, w); times++ {
			before, w = w, onced(w)
		}
		seen[fmt.Sprint("times ", min(times, 4))]++
		if v := sweep(t, u); !cfg.Same(v, w) || !cfg.Same(v, sweep(t, v)) || !cfg.Same(v, once(t, v)) {
			t.Error("Sweep is", v, "not", w)
		}
		rest(t, u)
		if t.Failed() {
			s, _ := cfg.Print(u)
			t.Fatal(s)
		}
	}
	for _, what := range []string{"idle 1", "idle 2", "idle 3", "idle 8", "in a ring", "not reached", "times 0", "times 1", "times 2", "times 3", "times 4"} {
		if seen[what] < 50 {
			t.Error(what, seen[what])
		}
	}
}

// rest holds what follows of a unit, its Once and its Sweep: 14.5 to 14.7.
func rest(t *testing.T, u api.Unit) {
	t.Helper()
	v, w := once(t, u), sweep(t, u)
	if why, _, _ := cfg.Check(w); why != api.OK || !slices.Equal(u.Shared, w.Shared) || !slices.Equal(u.Locks, w.Locks) || len(u.Graphs) != len(w.Graphs) {
		t.Error(w, "is not right")
		return
	}
	classes, _ := lockset.Classes(u)
	for thread, g := range u.Graphs {
		h := w.Graphs[thread]
		few, some, all := len(h.Nodes), len(v.Graphs[thread].Nodes), len(g.Nodes)
		stays := !slices.Contains(cfg.Reached(g), false) && !slices.Contains(idle(t, u, thread), true)
		if few > some || some > all || (some == all) != stays {
			t.Error(few, "nodes of", some, "of", all, stays)
		}
		if g.Name != h.Name || g.Slots != h.Slots || g.Locals != h.Locals {
			t.Error("not the same around", thread)
		}
		if slices.Contains(cfg.Reached(h), false) || slices.Contains(idle(t, w, thread), true) {
			t.Error(thread, "is not at rest")
		}
		left := map[int]int{}
		for _, n := range h.Nodes {
			left[n.Origin]++
			was := g.Nodes[n.Origin]
			was.Next, was.Else, n.Next, n.Else = 0, 0, 0, 0
			if n != was {
				t.Error(n, "was", was)
			}
		}
		for at, is := range cfg.Reached(g) {
			if left[at] > 1 || is && source.Visible(classes, g.Nodes[at]) && left[at] == 0 {
				t.Error(thread, at, "is there", left[at], "times")
			}
		}
	}
}

// smallUnit is a unit by chance that comes to few situations.
func smallUnit(t *testing.T, r *rand.Rand, threads int) api.Unit {
	t.Helper()
	if r.IntN(2) == 0 {
		return madeUnit(r, threads)
	}
	s := "shared w, x = 1, p0, p1, p2; lock l, m; "
	for i := range threads {
		body := ""
		for len(body) < 60/threads {
			body += grown(r, fmt.Sprint("p", i), 0)
			if r.IntN(6) == 0 {
				body += fmt.Sprintf("lock m { p%d = 3; lock l { p%d = 4; } } ", i, i)
				body += fmt.Sprintf("p%d = 5; lock l { lock m { p%d = 6; } } ", i, i)
			}
		}
		s += "thread " + string(rune('a'+i)) + " { local r, s; " + body + "} "
	}
	return unit(t, s)
}

// 14.4, P11: units by chance have the same ends behind Sweep, and behind both passes.
func TestEnds(t *testing.T) {
	r := rand.New(rand.NewPCG(14, 4))
	seen := map[string]int{}
	for range 2500 {
		u := smallUnit(t, r, 1+r.IntN(3))
		want, why := explore.Ends(u, 5000)
		if why != api.OK {
			continue
		}
		f, _, _ := fold.Fix(u)
		for _, v := range []api.Unit{sweep(t, u), sweep(t, f)} {
			got, why := explore.Ends(v, 5000)
			if why != api.OK || !slices.EqualFunc(got, want, explore.Same) {
				s, _ := cfg.Print(u)
				t.Fatal(got, "not", want, s)
			}
			if !cfg.Same(u, v) {
				seen["swept"]++
			}
		}
		seen[fmt.Sprint("threads ", len(u.Graphs), ", ends ", min(len(want), 2))]++
		if slices.ContainsFunc(want, func(e api.End) bool { return !e.Ended }) {
			seen["waits for ever"]++
		}
	}
	for _, what := range []string{"threads 1, ends 0", "threads 1, ends 1", "threads 2, ends 0", "threads 2, ends 1", "threads 2, ends 2", "threads 3, ends 2", "swept", "waits for ever"} {
		if seen[what] < 40 {
			t.Error(what, seen[what])
		}
	}
}

// answers is all that the package tells of a unit.
func answers(u api.Unit) string {
	v, why := dead.Once(u)
	w, no := dead.Sweep(u)
	s := fmt.Sprint(v, why, w, no)
	for thread := range u.Graphs {
		a, x := dead.Live(u, thread)
		b, y := dead.Waits(u, thread)
		c, z := dead.Idle(u, thread)
		s += fmt.Sprint(a, x, b, y, c, z)
	}
	return s
}

// 14.3: answers are new memory, in all their lists; what is handed in is neither changed nor kept.
func TestNewMemory(t *testing.T) {
	for _, text := range []string{
		"shared x, p; lock l; thread a { local r, s; p = 1; if (p) { r = p; } else { } lock l { x = r; } s = r; r = r; } thread b { x = 2; print 1 + 1; }",
		"thread a { }", "",
	} {
		u, same := unit(t, text), unit(t, text)
		want := answers(u)
		for _, make := range []func(u api.Unit) (api.Unit, api.Errno){dead.Once, dead.Sweep} {
			v, _ := make(u)
			_, _ = append(v.Shared, api.Decl{Name: "z"}), append(v.Graphs, api.Graph{})
			clear(v.Shared)
			clear(v.Locks)
			for i := range v.Graphs {
				rest := fmt.Sprint(slices.Delete(slices.Clone(v.Graphs), i, i+1))
				_ = append(v.Graphs[i].Nodes, api.Node{Kind: api.NodePrint})
				clear(v.Graphs[i].Nodes)
				if fmt.Sprint(slices.Delete(slices.Clone(v.Graphs), i, i+1)) != rest {
					t.Error("two lists are one")
				}
			}
			clear(v.Graphs)
		}
		for thread := range u.Graphs {
			for _, l := range [][][]bool{live(t, u, thread), waits(t, u, thread), {idle(t, u, thread)}} {
				for i := range l {
					rest := fmt.Sprint(slices.Delete(slices.Clone(l), i, i+1))
					for n := range l[i] {
						l[i][n] = !l[i][n]
					}
					_ = append(l[i], true)
					if fmt.Sprint(slices.Delete(slices.Clone(l), i, i+1)) != rest {
						t.Error("two lists are one")
					}
				}
			}
		}
		if !cfg.Same(u, same) || answers(u) != want {
			t.Error("the unit, or an answer, is changed")
		}
	}
}

// P3, P4: the same answers at each time, and to many that ask at one time; no goroutine is left.
func TestAlways(t *testing.T) {
	before := runtime.NumGoroutine()
	r := rand.New(rand.NewPCG(14, 3))
	for range 40 {
		u := anyUnit(t, r, 3)
		want := answers(u)
		done := make(chan string)
		for range 6 {
			go func() { done <- answers(u) }()
		}
		for range 6 {
			if <-done != want {
				t.Error("two answers to one question")
			}
		}
	}
	for range 1000 {
		if runtime.NumGoroutine() <= before {
			return
		}
		time.Sleep(time.Millisecond)
	}
	t.Error("goroutines are left")
}

// great is a unit of as many threads, nodes and slots as may be; at is the node of a place, that leads on to the next one.
func great(at func(place int) api.Node) api.Unit {
	u := api.Unit{}
	for i := range api.MaxThreads {
		u.Shared = append(u.Shared, api.Decl{Name: fmt.Sprint("p", i)})
		g := api.Graph{Name: fmt.Sprint("t", i), Slots: api.MaxSlots}
		for place := range api.MaxNodes - 1 {
			n := at(place)
			n.Next, n.Origin = place+1, place
			if n.Kind == api.NodeLoad || n.Kind == api.NodeStore {
				n.Thing = i
			}
			g.Nodes = append(g.Nodes, n)
		}
		g.Nodes = append(g.Nodes, api.Node{Kind: api.NodeEnd})
		u.Graphs = append(u.Graphs, g)
	}
	return u
}

// P1: units as great as may be: of which all goes at one time, one node after the other, or nothing.
func TestGreat(t *testing.T) {
	for _, x := range []struct {
		at          func(place int) api.Node
		once, sweep int // how many nodes are left
	}{
		{func(place int) api.Node { return api.Node{Kind: api.NodeSet, Slot: place, A: word(1)} }, 1, 1},
		{func(place int) api.Node { return api.Node{Kind: api.NodeSet, Slot: place + 1, A: slot(place)} }, api.MaxNodes - 1, 1},
		{func(place int) api.Node { return api.Node{Kind: api.NodePrint, A: slot(place)} }, api.MaxNodes, api.MaxNodes},
		{func(place int) api.Node {
			switch {
			case place == api.MaxNodes-2:
				return api.Node{Kind: api.NodeStore, A: word(1)}
			case place%2 == 0:
				return api.Node{Kind: api.NodeLoad, Slot: place + 1}
			}
			return api.Node{Kind: api.NodeStore, A: slot(place)}
		}, api.MaxNodes - 1, 2},
	} {
		u := great(x.at)
		if n := len(once(t, u).Graphs[7].Nodes); n != x.once {
			t.Error(n, "nodes, not", x.once)
		}
		if n := len(sweep(t, u).Graphs[7].Nodes); n != x.sweep {
			t.Error(n, "nodes, not", x.sweep)
		}
		if l := live(t, u, 7); len(l) != api.MaxNodes || len(l[0]) != api.MaxSlots {
			t.Error(len(l))
		}
		if l := waits(t, u, 7); len(l) != api.MaxNodes || len(l[0]) != api.MaxThreads {
			t.Error(len(l))
		}
	}
}
