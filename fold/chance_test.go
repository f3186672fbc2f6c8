package fold_test

import (
	"fmt"
	"math/rand/v2"
	"runtime"
	"slices"
	"testing"
	"time"

	"stile/api"
	"stile/cfg"
	"stile/fold"
	"stile/lockset"
	"stile/source"
	"stile/words"
)

// grown is a thread's text by chance, of shared w (guarded, where all touch it under l), x, y and one of the thread's own, locks l, m, locals r, s.
func grown(r *rand.Rand, own string, wide int) string {
	pick := func(l ...string) string { return l[r.IntN(len(l))] }
	s := ""
	for range 1 + r.IntN(3) {
		kind := r.IntN(16)
		if wide == 0 {
			kind = 4 + r.IntN(12)
		}
		word := pick("0", "1", "2", "x", own, "r", "s", "!r", "s - r", "r + 0", "1 * s", own+" & r", "2 + 3")
		switch kind {
		case 0, 1:
			s += "if (" + word + ") {" + grown(r, own, wide-1) + "} else {" + pick("", grown(r, own, wide-1)) + "} "
		case 2:
			s += "while (" + word + ") {" + grown(r, own, wide-1) + "} "
		case 3:
			s += "lock " + pick("l", "m") + " {" + grown(r, own, wide-1) + "} "
		case 4:
			s += pick("r", "s") + " = swap(" + pick("x", own) + ", " + word + "); "
		case 5:
			s += "lock l { w = " + pick("1", "r", "w") + "; " + pick("", "lock m { } ") + pick("r", "s", own) + " = w; } "
		case 6:
			s += "print " + word + "; "
		case 7, 8, 9:
			s += pick("x", "y", own, own) + " = " + word + "; "
		default:
			s += pick("r", "s") + " = " + word + "; "
		}
	}
	return s
}

func grownUnit(t *testing.T, r *rand.Rand, threads int) api.Unit {
	t.Helper()
	s := "shared w, x = 1, y"
	for i := range threads {
		s += fmt.Sprint(", p", i)
	}
	s += "; lock l, m; "
	for i := range threads {
		s += "thread " + string(rune('a'+i)) + " { local r, s; " + grown(r, fmt.Sprint("p", i), 2) + "} "
	}
	u := unit(t, s)
	relink(r, u)
	return u
}

// relink has some nodes lead elsewhere, where the unit is right then, too.
func relink(r *rand.Rand, u api.Unit) {
	for range r.IntN(6) {
		nodes := u.Graphs[r.IntN(len(u.Graphs))].Nodes
		n := &nodes[r.IntN(len(nodes))]
		was := *n
		switch n.Kind {
		case api.NodeEnd:
		case api.NodeBranch:
			n.Else = r.IntN(len(nodes))
		default:
			n.Next = r.IntN(len(nodes))
		}
		if why, _, _ := cfg.Check(u); why != api.OK {
			*n = was
		}
	}
}

// madeUnit is a unit by chance that no text makes: often one goes straight on, but as often as not it leads anywhere.
func madeUnit(r *rand.Rand, threads int) api.Unit {
	u := api.Unit{Shared: []api.Decl{{Name: "x", Word: 2}, {Name: "y"}, {Name: "z"}}}
	for i := range threads {
		g := api.Graph{Name: string(rune('a' + i)), Slots: 3}
		count := 1 + r.IntN(12)
		for at := range count {
			n := api.Node{Kind: api.NodeKind(1 + r.IntN(int(api.NodeCount)-1)), Next: min(at+1, count-1), Origin: r.IntN(5)}
			if r.IntN(5) == 0 || n.Kind == api.NodeBranch {
				n.Next = r.IntN(count)
			}
			value := func() api.Value {
				if r.IntN(3) == 0 {
					return word(r.Int64N(3))
				}
				return slot(r.IntN(3))
			}
			switch n.Kind {
			case api.NodeLock, api.NodeUnlock, api.NodeSet:
				n.Kind, n.Slot, n.A, n.Op = api.NodeSet, r.IntN(3), value(), api.Op(max(0, r.IntN(30)-12))
				if n.Op >= api.OpCount {
					n.Op = api.OpNone
				}
				if words.Two(n.Op) {
					n.B = value()
				}
			case api.NodeLoad:
				n.Slot, n.Thing = r.IntN(3), r.IntN(3)
			case api.NodeStore:
				n.A, n.Thing = value(), r.IntN(3)
			case api.NodeSwap:
				n.Slot, n.A, n.Thing = r.IntN(3), value(), r.IntN(3)
			case api.NodePrint:
				n.A = value()
			case api.NodeBranch:
				n.A, n.Else = value(), min(at+1, count-1)
			case api.NodeEnd:
				n.Next = 0
			}
			g.Nodes = append(g.Nodes, n)
		}
		u.Graphs = append(u.Graphs, g)
	}
	return u
}

func anyUnit(t *testing.T, r *rand.Rand, threads int) api.Unit {
	t.Helper()
	if r.IntN(3) == 0 {
		return madeUnit(r, threads)
	}
	return grownUnit(t, r, threads)
}

// told is what the chapter's words say of a thread, read anew: facts stand by what they are of, as text.
type told struct {
	g       api.Graph
	classes []api.Class
	reached []bool
	memo    map[int]map[string]api.Value
}

func tell(u api.Unit, thread int) *told {
	classes, _ := lockset.Classes(u)
	x := &told{u.Graphs[thread], classes, make([]bool, len(u.Graphs[thread].Nodes)), map[int]map[string]api.Value{}}
	var come func(at int)
	come = func(at int) {
		if !x.reached[at] {
			x.reached[at] = true
			for _, to := range x.edges(at) {
				come(to)
			}
		}
	}
	come(0)
	return x
}

func (x *told) edges(at int) []int {
	n := x.g.Nodes[at]
	if n.Kind == api.NodeEnd {
		return nil
	}
	if n.Kind == api.NodeBranch && n.Next != n.Else {
		return []int{n.Next, n.Else}
	}
	return []int{n.Next}
}

func slotName(n int) string { return fmt.Sprint("slot ", n) }

func thingName(n int) string { return fmt.Sprint("thing ", n) }

func (x *told) isQuiet(thing int) bool {
	kind := x.classes[thing].Kind
	return kind == api.ClassPrivate || kind == api.ClassGuarded
}

// ahead is what is known ahead of a node.
func (x *told) ahead(node int) map[string]api.Value {
	if known, is := x.memo[node]; is {
		return known
	}
	var from []int
	for at := range x.g.Nodes {
		for _, to := range x.edges(at) {
			if x.reached[at] && to == node {
				from = append(from, at)
			}
		}
	}
	known := map[string]api.Value{}
	if node != 0 && x.reached[node] && len(from) == 1 {
		known = x.behind(from[0], node)
	}
	x.memo[node] = known
	return known
}

func (x *told) behind(node, to int) map[string]api.Value {
	known := map[string]api.Value{}
	for k, v := range x.ahead(node) {
		known[k] = v
	}
	n := x.fold(node)
	if n.Kind == api.NodeSet || n.Kind == api.NodeLoad || n.Kind == api.NodeSwap {
		delete(known, slotName(n.Slot))
		for k, v := range known {
			if v == slot(n.Slot) {
				delete(known, k)
			}
		}
	}
	switch n.Kind {
	case api.NodeSet:
		if n.Op == api.OpNone && n.A != slot(n.Slot) {
			known[slotName(n.Slot)] = n.A
		}
	case api.NodeLoad:
		if x.isQuiet(n.Thing) {
			known[thingName(n.Thing)] = slot(n.Slot)
		}
	case api.NodeStore, api.NodeSwap:
		if x.isQuiet(n.Thing) {
			delete(known, thingName(n.Thing))
			if n.Kind == api.NodeStore || n.A != slot(n.Slot) {
				known[thingName(n.Thing)] = n.A
			}
		}
	case api.NodeLock, api.NodeUnlock:
		for thing, c := range x.classes {
			if c.Kind == api.ClassGuarded {
				delete(known, thingName(thing))
			}
		}
	case api.NodeBranch:
		if len(x.edges(node)) == 2 && n.A.IsSlot && to == x.g.Nodes[node].Else {
			known[slotName(n.A.Slot)] = word(0)
		}
	}
	return known
}

// fold is a node folded.
func (x *told) fold(node int) api.Node {
	n := x.g.Nodes[node]
	if !x.reached[node] {
		return n
	}
	known := x.ahead(node)
	put := func(v api.Value) api.Value {
		if w, is := known[slotName(v.Slot)]; is && v.IsSlot {
			return w
		}
		return v
	}
	n.A, n.B = put(n.A), put(n.B)
	switch n.Kind {
	case api.NodeSet:
		x.reckon(&n)
	case api.NodeLoad:
		if v, is := known[thingName(n.Thing)]; is && x.isQuiet(n.Thing) {
			n.Kind, n.Thing, n.A = api.NodeSet, 0, v
		}
	case api.NodeBranch:
		if n.A != slot(n.A.Slot) && n.A.Word != 0 {
			n.Else = n.Next
		} else if n.A == word(0) {
			n.Next = n.Else
		}
	}
	return n
}

func (x *told) reckon(n *api.Node) {
	two := words.Two(n.Op)
	if n.Op == api.OpNone {
		return
	}
	if !n.A.IsSlot && (!two || !n.B.IsSlot) {
		w, _ := words.One(n.Op, n.A.Word)
		if two {
			w, _ = words.Do(n.Op, n.A.Word, n.B.Word)
		}
		n.Op, n.A, n.B = api.OpNone, word(w), word(0)
		return
	}
	if !two {
		return
	}
	of := n.A
	if !of.IsSlot {
		of = n.B
	}
	name := func(v api.Value) string {
		switch {
		case v == of:
			return "x"
		case v.IsSlot:
			return "y"
		}
		return words.Print(v.Word)
	}
	switch ruled(name(n.A) + " " + words.Show(n.Op) + " " + name(n.B)) {
	case "x":
		n.Op, n.A, n.B = api.OpNone, of, word(0)
	case "0":
		n.Op, n.A, n.B = api.OpNone, word(0), word(0)
	case "1":
		n.Op, n.A, n.B = api.OpNone, word(1), word(0)
	}
}

// 13.1 to 13.3, 13.7, 13.8: units by chance, held against the chapter's words.
func TestByChance(t *testing.T) {
	r := rand.New(rand.NewPCG(13, 1))
	seen := map[string]int{}
	for range 4000 {
		u := anyUnit(t, r, 1+r.IntN(2))
		v := folded(t, u)
		classes, _ := lockset.Classes(u)
		if !slices.Equal(u.Shared, v.Shared) || !slices.Equal(u.Locks, v.Locks) || len(u.Graphs) != len(v.Graphs) {
			t.Error("not the same around")
		}
		for thread, g := range u.Graphs {
			x := tell(u, thread)
			h := v.Graphs[thread]
			if g.Name != h.Name || g.Slots != h.Slots || g.Locals != h.Locals || len(g.Nodes) != len(h.Nodes) {
				t.Error("not the same around", thread)
			}
			for node, n := range h.Nodes {
				if want := x.fold(node); n != want {
					t.Error(thread, node, n, "not", want)
				}
				was := g.Nodes[node]
				if n.Origin != was.Origin || n.Kind != was.Kind && (was.Kind != api.NodeLoad || source.Visible(classes, was)) {
					t.Error(thread, node, n, "was", was)
				}
				if source.Visible(classes, was) && (n.Thing != was.Thing || n.Slot != was.Slot || n.Next != was.Next) {
					t.Error(thread, node, n, "was", was)
				}
				if number := r.IntN(max(g.Slots, 1)); number < g.Slots {
					want := "?"
					if v, is := x.ahead(node)[slotName(number)]; is && !v.IsSlot {
						want = words.Print(v.Word)
						seen["known"]++
					}
					if got := known(t, u, thread, node, number); got != want {
						t.Error("Known of", thread, node, number, got, "not", want)
					}
				}
				if n != was {
					seen[fmt.Sprint("of ", was.Kind, " a ", n.Kind)]++
				}
				if !x.reached[node] {
					seen["not reached"]++
				}
			}
		}
		w, times := fixed(t, u)
		if times < api.MaxDeep && !cfg.Same(w, folded(t, w)) {
			t.Error("not at rest behind", times)
		}
		for range times {
			u = folded(t, u)
		}
		if !cfg.Same(u, w) {
			t.Error("Fix is not as many Folds as", times)
		}
		seen[fmt.Sprint("times ", min(times, 4))]++
		if t.Failed() {
			s, _ := cfg.Print(u)
			t.Fatal(s)
		}
	}
	for _, what := range []string{"known", "not reached", "of 1 a 1", "of 2 a 1", "of 3 a 3", "of 4 a 4", "of 7 a 7", "of 8 a 8", "times 0", "times 1", "times 2"} {
		if seen[what] < 60 {
			t.Error(what, seen[what])
		}
	}
}

// 13.5, 13.6: schedules by chance: a unit, its Fold and its Fix come to the same situations, step by step, with the same errors; slots have what is known.
func TestRuns(t *testing.T) {
	r := rand.New(rand.NewPCG(13, 5))
	seen := map[string]int{}
	for range 1500 {
		u := anyUnit(t, r, 1+r.IntN(3))
		v := folded(t, u)
		w, _ := fixed(t, u)
		a, _ := source.New(u)
		b, _ := source.New(v)
		c, _ := source.New(w)
		for range 60 {
			thread := r.IntN(len(u.Graphs) + 1)
			if thread < len(u.Graphs) {
				has := a.Slots(thread)
				if number := r.IntN(max(len(has), 1)); number < len(has) {
					s := known(t, u, thread, a.At(thread), number)
					if s != "?" && s != words.Print(has[number]) {
						t.Error("slot", number, "of", thread, "has", has[number], "not", s)
					}
					seen[fmt.Sprint("known ", s != "?")]++
				}
			}
			_, x := a.Step(thread)
			_, y := b.Step(thread)
			_, z := c.Step(thread)
			if x != y || x != z || a.Key() != b.Key() || a.Key() != c.Key() {
				t.Error(thread, x, y, z, a.Key(), b.Key(), c.Key())
			}
			seen[fmt.Sprint("error ", x)]++
			if t.Failed() {
				s, _ := cfg.Print(u)
				t.Fatal(s)
			}
		}
	}
	for _, what := range []string{"known true", "known false", "error 0", "error 2", "error 70", "error 71"} {
		if seen[what] < 100 {
			t.Error(what, seen[what])
		}
	}
}

// answers is all that the package tells of a unit.
func answers(u api.Unit) string {
	v, why := fold.Fold(u)
	w, times, no := fold.Fix(u)
	s := fmt.Sprint(v, why, w, times, no)
	for thread, g := range u.Graphs {
		for node := range g.Nodes {
			for slot := range g.Slots {
				w, is, why := fold.Known(u, thread, node, slot)
				s += fmt.Sprint(w, is, why)
			}
		}
	}
	return s
}

// 13.4: answers are new memory, in all their lists; what is handed in is neither changed nor kept.
func TestNewMemory(t *testing.T) {
	for _, text := range []string{
		"shared x, p; lock l; thread a { local r; p = 1; if (p) { r = p; } lock l { x = r; } } thread b { x = 2; print 1 + 1; }",
		"thread a { }", "",
	} {
		u, same := unit(t, text), unit(t, text)
		want := answers(u)
		for _, make := range []func() api.Unit{
			func() api.Unit { return folded(t, u) },
			func() api.Unit { v, _ := fixed(t, u); return v },
		} {
			v := make()
			_, _ = append(v.Shared, api.Decl{Name: "z"}), append(v.Graphs, api.Graph{})
			clear(v.Shared)
			clear(v.Locks)
			for i := range v.Graphs {
				rest := fmt.Sprint(slices.Delete(slices.Clone(v.Graphs), i, i+1))
				_ = append(v.Graphs[i].Nodes, api.Node{Kind: api.NodePrint})
				clear(v.Graphs[i].Nodes)
				if fmt.Sprint(slices.Delete(slices.Clone(v.Graphs), i, i+1)) != rest {
					t.Error("two lists are one")
				}
			}
			clear(v.Graphs)
			if !cfg.Same(u, same) || answers(u) != want {
				t.Error("the unit, or an answer, is changed")
			}
		}
	}
}

// P3, P4: the same answers at each time, and to many that ask at one time; no goroutine is left.
func TestAlways(t *testing.T) {
	before := runtime.NumGoroutine()
	r := rand.New(rand.NewPCG(13, 4))
	for range 20 {
		u := anyUnit(t, r, 3)
		want := answers(u)
		done := make(chan string)
		for range 6 {
			go func() { done <- answers(u) }()
		}
		for range 6 {
			if <-done != want {
				t.Error("two answers to one question")
			}
		}
	}
	for range 1000 {
		if runtime.NumGoroutine() <= before {
			return
		}
		time.Sleep(time.Millisecond)
	}
	t.Error("goroutines are left")
}

// great is a unit of as many threads, nodes and slots as may be; at is the node of a place, that leads on to the next one, but a branch.
func great(at func(place int) api.Node) api.Unit {
	u := api.Unit{}
	for i := range api.MaxThreads {
		u.Shared = append(u.Shared, api.Decl{Name: fmt.Sprint("p", i)})
		g := api.Graph{Name: fmt.Sprint("t", i), Slots: api.MaxSlots}
		for place := range api.MaxNodes - 1 {
			n := at(place)
			if n.Kind != api.NodeBranch {
				n.Next = place + 1
			}
			if n.Kind == api.NodeLoad || n.Kind == api.NodeStore {
				n.Thing = i
			}
			g.Nodes = append(g.Nodes, n)
		}
		g.Nodes = append(g.Nodes, api.Node{Kind: api.NodeEnd})
		u.Graphs = append(u.Graphs, g)
	}
	return u
}

// P1: units as great as may be: many facts that hang on one slot, or on one another; many branches within one another; many Folds.
func TestGreat(t *testing.T) {
	const last = api.MaxNodes - 2
	u := great(func(place int) api.Node {
		return api.Node{Kind: api.NodeSet, Slot: place + 1, A: slot(place)}
	})
	v := folded(t, u)
	for place, n := range v.Graphs[7].Nodes[:last] {
		if n.A != slot(0) {
			t.Fatal(place, n)
		}
	}
	u = great(func(place int) api.Node {
		switch {
		case place == 0:
			return api.Node{Kind: api.NodeSet, Slot: 1, A: word(5)}
		case place%3 == 0:
			return api.Node{Kind: api.NodeBranch, A: slot(place + 1), Next: last + 1, Else: place + 1}
		case place%3 == 1:
			return api.Node{Kind: api.NodeStore, A: slot(place)}
		}
		return api.Node{Kind: api.NodeLoad, Slot: place}
	})
	if s := known(t, u, 7, last, 1) + known(t, u, 7, last, 4) + known(t, u, 7, last, 2999) + known(t, u, 7, last, last); s != "500?" {
		t.Error(s)
	}
	if v = folded(t, u); v.Graphs[7].Nodes[2] != (api.Node{Kind: api.NodeSet, Slot: 2, A: word(5), Next: 3}) {
		t.Error(v.Graphs[7].Nodes[2])
	}
	u = great(func(place int) api.Node {
		switch {
		case place == 0 || place > 300:
			return api.Node{Kind: api.NodeSet, Slot: place, A: word(1)}
		case place%2 == 1:
			return api.Node{Kind: api.NodeBranch, A: slot(0), Next: place + 2, Else: place + 1}
		}
		return api.Node{Kind: api.NodeSet, A: word(2)}
	})
	if v, times := fixed(t, u); times != api.MaxDeep || v.Graphs[0].Nodes[127] != (api.Node{Kind: api.NodeBranch, A: word(1), Next: 129, Else: 129}) || v.Graphs[0].Nodes[129] != u.Graphs[0].Nodes[129] {
		t.Error(times, v.Graphs[0].Nodes[127:130])
	}
}
