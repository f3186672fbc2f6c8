package regs_test

import (
	"fmt"
	"math/rand/v2"
	"runtime"
	"slices"
	"testing"
	"time"

	"stile/api"
	"stile/cfg"
	"stile/regs"
	"stile/source"
	"stile/words"
)

// grown is a thread's text by chance, of shared x, y, locks l, m and the locals of names.
func grown(r *rand.Rand, names []string, wide int) string {
	pick := func(l ...string) string { return l[r.IntN(len(l))] }
	local := func() string { return pick(names...) }
	s := ""
	for range 1 + r.IntN(4) {
		kind := r.IntN(14)
		if wide == 0 {
			kind = 4 + r.IntN(10)
		}
		word := pick("1", "x", local(), "!"+local(), local()+" - "+local(), local()+" + "+local()+" * y")
		switch kind {
		case 0, 1:
			s += "if (" + word + ") {" + grown(r, names, wide-1) + "} else {" + pick("", grown(r, names, wide-1)) + "} "
		case 2:
			s += "while (" + word + ") {" + grown(r, names, wide-1) + "} "
		case 3:
			s += "lock " + pick("l", "m") + " {" + grown(r, names, wide-1) + "} "
		case 4:
			s += local() + " = swap(" + pick("x", "y") + ", " + word + "); "
		case 5:
			s += "print " + word + "; "
		case 6, 7:
			s += pick("x", "y") + " = " + word + "; "
		default:
			s += local() + " = " + word + "; "
		}
	}
	return s
}

// grownUnit is a unit by chance; often with links that lead elsewhere, so that not all nodes are reached.
func grownUnit(t *testing.T, r *rand.Rand, threads int) api.Unit {
	t.Helper()
	s := "shared x = 1, y; lock l, m; "
	for i := range threads {
		names := []string{"r"}
		for n := range r.IntN(24) {
			names = append(names, fmt.Sprint("r", n))
		}
		s += "thread " + string(rune('a'+i)) + " { local r"
		for _, name := range names[1:] {
			s += ", " + name
		}
		s += "; " + grown(r, names, 2) + "} "
	}
	u := unit(t, s)
	for range r.IntN(6) {
		nodes := u.Graphs[r.IntN(threads)].Nodes
		n := &nodes[r.IntN(len(nodes))]
		was := *n
		switch n.Kind {
		case api.NodeEnd:
		case api.NodeBranch:
			n.Else = r.IntN(len(nodes))
		default:
			n.Next = r.IntN(len(nodes))
		}
		if why, _, _ := cfg.Check(u); why != api.OK {
			*n = was
		}
	}
	return u
}

// madeUnit is a unit by chance that no text makes; a crowded thread asks for all its slots at the end.
func madeUnit(r *rand.Rand, threads int) api.Unit {
	u := api.Unit{Shared: []api.Decl{{Name: "x", Word: 2}, {Name: "y"}}}
	for i := range threads {
		slots := 1 + r.IntN(26)
		count := 1 + r.IntN(40)
		last, rare := count-1, 12
		isCrowded := r.IntN(2) == 0
		if isCrowded {
			slots, count, rare = slots+8, count+30, 80
			last = count
		}
		g := api.Graph{Name: string(rune('a' + i)), Slots: slots}
		value := func() api.Value {
			if r.IntN(5) == 0 {
				return word(r.Int64N(3))
			}
			return slot(r.IntN(slots))
		}
		for at := range count {
			n := api.Node{Next: min(at+1, last), Origin: at}
			if r.IntN(rare) == 0 {
				n.Next = r.IntN(count)
			}
			switch kind := r.IntN(13); {
			case kind < 5:
				n.Kind, n.Slot, n.A = api.NodeSet, r.IntN(slots), value()
				n.Op = []api.Op{api.OpNone, api.OpAdd, api.OpLess, api.OpNot}[r.IntN(4)]
				if words.Two(n.Op) {
					n.B = value()
				}
			case kind < 7:
				n.Kind, n.Slot, n.Thing = api.NodeLoad, r.IntN(slots), r.IntN(2)
			case kind < 8:
				n.Kind, n.Thing, n.A = api.NodeStore, r.IntN(2), value()
			case kind < 9:
				n.Kind, n.Slot, n.Thing, n.A = api.NodeSwap, r.IntN(slots), r.IntN(2), value()
			case kind < 11:
				n.Kind, n.A = api.NodePrint, value()
			case kind < 12:
				n.Kind, n.A, n.Else = api.NodeBranch, value(), min(at+r.IntN(6), last)
			default:
				if at < last && r.IntN(3) > 0 {
					n.Kind, n.A, n.Else = api.NodeBranch, value(), r.IntN(count)
				} else {
					n.Kind, n.Next = api.NodeEnd, 0
				}
			}
			g.Nodes = append(g.Nodes, n)
		}
		for n := range slots {
			if isCrowded {
				g.Nodes = append(g.Nodes, print(slot(n), len(g.Nodes)+1))
			}
		}
		if isCrowded {
			g.Nodes = append(g.Nodes, end())
		}
		u.Graphs = append(u.Graphs, g)
	}
	return u
}

func anyUnit(t *testing.T, r *rand.Rand, threads int) api.Unit {
	t.Helper()
	if r.IntN(2) == 0 {
		return madeUnit(r, threads)
	}
	return grownUnit(t, r, threads)
}

// told is what the chapter's words say of a thread, read anew.
type told struct {
	g       api.Graph
	reached []bool
	depth   []int
}

func tell(g api.Graph) told {
	x := told{g, make([]bool, len(g.Nodes)), cfg.Depth(g)}
	var come func(at int)
	come = func(at int) {
		if !x.reached[at] {
			x.reached[at] = true
			for _, to := range x.to(at) {
				come(to)
			}
		}
	}
	come(0)
	return x
}

func (x told) to(at int) []int {
	switch n := x.g.Nodes[at]; n.Kind {
	case api.NodeEnd:
		return nil
	case api.NodeBranch:
		return []int{n.Next, n.Else}
	default:
		return []int{n.Next}
	}
}

func (x told) uses(at, number int) bool {
	n := x.g.Nodes[at]
	switch n.Kind {
	case api.NodeSet:
		return n.A == slot(number) || words.Two(n.Op) && n.B == slot(number)
	case api.NodeStore, api.NodeSwap, api.NodePrint, api.NodeBranch:
		return n.A == slot(number)
	}
	return false
}

func (x told) defines(at, number int) bool {
	n := x.g.Nodes[at]
	return (n.Kind == api.NodeSet || n.Kind == api.NodeLoad || n.Kind == api.NodeSwap) && n.Slot == number
}

// live are the slots that are live ahead of each node: of each slot all ways are gone from each node.
func (x told) live() [][]int {
	l := make([][]int, len(x.g.Nodes))
	for number := range x.g.Slots {
		for at := range l {
			seen := make([]bool, len(l))
			var come func(at int) bool
			come = func(at int) bool {
				if seen[at] || x.uses(at, number) {
					return !seen[at]
				}
				seen[at] = true
				return !x.defines(at, number) && slices.ContainsFunc(x.to(at), come)
			}
			if x.reached[at] && come(at) {
				l[at] = append(l[at], number)
			}
		}
	}
	return l
}

func (x told) clash(live [][]int, a, b int) bool {
	for at := range x.g.Nodes {
		for _, to := range x.to(at) {
			if x.reached[at] && a != b && (x.defines(at, a) && slices.Contains(live[to], b) || x.defines(at, b) && slices.Contains(live[to], a)) {
				return true
			}
		}
	}
	return false
}

func (x told) weight(number int) int {
	sum := 0
	for at, is := range x.reached {
		if is && (x.uses(at, number) || x.defines(at, number)) {
			w := 1
			for range min(x.depth[at], 4) {
				w *= 8
			}
			sum += w
		}
	}
	return sum
}

// assign are the places by the words of 15.2; clash and weight are asked for.
func (x told) assign(promote bool, clash func(a, b int) bool) api.Alloc {
	a := api.Alloc{Places: make([]api.Place, x.g.Slots)}
	var order []int
	for number := range x.g.Slots {
		if x.weight(number) > 0 {
			order = append(order, number)
		}
	}
	if promote {
		slices.SortStableFunc(order, func(a, b int) int { return x.weight(b) - x.weight(a) })
	}
	for i, number := range order {
		free := -1
		for reg := api.FreeRegs - 1; promote && reg >= 0; reg-- {
			if !slices.ContainsFunc(order[:i], func(other int) bool {
				return a.Places[other] == api.Place{N: reg} && clash(other, number)
			}) {
				free = reg
			}
		}
		if free >= 0 {
			a.Places[number].N = free
			continue
		}
		a.Places[number] = api.Place{InCell: true, N: a.Cells}
		a.Cells++
	}
	return a
}

// some are places by chance; often they differ where slots clash.
func some(r *rand.Rand, slots int, clash func(a, b int) bool) api.Alloc {
	a := api.Alloc{Places: make([]api.Place, slots), Cells: r.IntN(slots + 2)}
	isCareful := r.IntN(3) > 0
	for number := range slots {
		for range 20 {
			p := api.Place{N: r.IntN(api.FreeRegs)}
			if a.Cells > 0 && r.IntN(3) == 0 {
				p = api.Place{InCell: true, N: r.IntN(a.Cells)}
			}
			a.Places[number] = p
			if !isCareful || !slices.ContainsFunc(a.Places[:number], func(other api.Place) bool {
				return other == p && clash(slices.Index(a.Places, other), number)
			}) {
				break
			}
		}
	}
	return a
}

// 15.1 to 15.3, 15.6, 15.7: units by chance, held against the chapter's words.
func TestByChance(t *testing.T) {
	r := rand.New(rand.NewPCG(15, 1))
	seen := map[string]int{}
	for range 400 {
		u := anyUnit(t, r, 1+r.IntN(3))
		with, without := assign(t, u, true), assign(t, u, false)
		if !right(t, u, with) || !right(t, u, without) || len(with) != len(u.Graphs) || len(without) != len(u.Graphs) {
			t.Error("Assign is not Right:", with, without)
		}
		var any []api.Alloc
		anyRight := true
		for thread, g := range u.Graphs {
			x := tell(g)
			want := x.live()
			if got := live(t, u, thread); fmt.Sprint(got) != fmt.Sprint(want) {
				t.Error("Live of", thread, got, "not", want)
			}
			table := make([][]bool, g.Slots)
			for a := range g.Slots {
				if n := weight(t, u, thread, a); n != x.weight(a) {
					t.Error("Weight of", thread, a, n, "not", x.weight(a))
				}
				for b := range g.Slots {
					table[a] = append(table[a], x.clash(want, a, b))
					if r.IntN(4) == 0 && clash(t, u, thread, a, b) != table[a][b] {
						t.Error("Clash of", thread, a, b, "not", table[a][b])
					}
				}
			}
			asked := func(a, b int) bool { return table[a][b] }
			for _, x := range []struct{ got, want api.Alloc }{{with[thread], x.assign(true, asked)}, {without[thread], x.assign(false, asked)}} {
				if placed(x.got) != placed(x.want) {
					t.Error("Assign of", thread, placed(x.got), "not", placed(x.want))
				}
			}
			if with[thread].Cells > without[thread].Cells {
				t.Error("more cells with registers")
			}
			any = append(any, some(r, g.Slots, asked))
			for a := range g.Slots {
				for b := range a {
					anyRight = anyRight && (any[thread].Places[a] != any[thread].Places[b] || !table[a][b])
				}
			}
			seen[fmt.Sprint("cells ", with[thread].Cells > 0)]++
			seen[fmt.Sprint("unused ", slices.Contains(weightsOf(x), 0))]++
			seen[fmt.Sprint("all reached ", !slices.Contains(x.reached, false))]++
		}
		if right(t, u, any) != anyRight {
			t.Error("Right of", any, "not", anyRight)
		}
		seen[fmt.Sprint("right ", anyRight)]++
		if t.Failed() {
			s, _ := cfg.Print(u)
			t.Fatal(s)
		}
	}
	for _, what := range []string{"cells true", "cells false", "unused true", "unused false", "all reached true", "all reached false", "right true", "right false"} {
		if seen[what] < 30 {
			t.Error(what, seen[what])
		}
	}
}

func weightsOf(x told) []int {
	var l []int
	for number := range x.g.Slots {
		l = append(l, x.weight(number))
	}
	return l
}

// kept is a thread's memory for slots.
type kept struct {
	a     api.Alloc
	regs  [api.FreeRegs]int64
	cells []int64
}

func (k *kept) at(number int) *int64 {
	p := k.a.Places[number]
	if p.InCell {
		return &k.cells[p.N]
	}
	return &k.regs[p.N]
}

// 15.5: whatever the schedule, each node finds in its slots' places what its slots have.
func TestKept(t *testing.T) {
	r := rand.New(rand.NewPCG(15, 5))
	seen := map[string]int{}
	for range 1500 {
		u := anyUnit(t, r, 1+r.IntN(3))
		for _, l := range [][]api.Alloc{assign(t, u, true), assign(t, u, false), someRight(t, r, u)} {
			if l == nil {
				seen["none"]++
				continue
			}
			seen["some"]++
			m, why := source.New(u)
			if why != api.OK {
				t.Fatal(why)
			}
			var places []*kept
			for _, a := range l {
				places = append(places, &kept{a: a, cells: make([]int64, a.Cells)})
			}
			for range 150 {
				thread := r.IntN(len(u.Graphs))
				at, slots := m.At(thread), m.Slots(thread)
				for number, w := range slots {
					if tell := (told{g: u.Graphs[thread]}); tell.uses(at, number) {
						seen["used"]++
						if got := *places[thread].at(number); got != w {
							s, _ := cfg.Print(u)
							t.Fatalf("%v: thread %d at %d finds %d, not %d, of slot %d of\n%s", l, thread, at, got, w, number, s)
						}
					}
				}
				if _, why := m.Step(thread); why != api.OK {
					continue
				}
				n := u.Graphs[thread].Nodes[at]
				if n.Kind == api.NodeSet || n.Kind == api.NodeLoad || n.Kind == api.NodeSwap {
					*places[thread].at(n.Slot) = m.Slots(thread)[n.Slot]
				}
			}
		}
	}
	if seen["none"] < 30 || seen["some"] < 3000 || seen["used"] < 30000 {
		t.Error(seen)
	}
}

// someRight are places by chance that are Right; none, if they are not.
func someRight(t *testing.T, r *rand.Rand, u api.Unit) []api.Alloc {
	t.Helper()
	var l []api.Alloc
	for thread, g := range u.Graphs {
		l = append(l, some(r, g.Slots, func(a, b int) bool { return clash(t, u, thread, a, b) }))
	}
	if !right(t, u, l) {
		return nil
	}
	return l
}

// walk does a thread's nodes, where reads come to what is handed in; each node may spoil slots first. It tells all that the thread does.
func walk(g api.Graph, reads []int64, spoil func(at int, slots []int64)) []string {
	var l []string
	slots := make([]int64, g.Slots)
	value := func(v api.Value) int64 {
		if v.IsSlot {
			return slots[v.Slot]
		}
		return v.Word
	}
	at := 0
	for _, read := range reads {
		spoil(at, slots)
		n := g.Nodes[at]
		a, b := value(n.A), value(n.B)
		did := read
		switch n.Kind {
		case api.NodeEnd:
			return append(l, "end")
		case api.NodeSet:
			did = a
			if words.Two(n.Op) {
				did, _ = words.Do(n.Op, a, b)
			} else if n.Op != api.OpNone {
				did, _ = words.One(n.Op, a)
			}
		}
		l = append(l, fmt.Sprint(at, n.Kind, n.Thing, a, b, did))
		switch n.Kind {
		case api.NodeSet, api.NodeLoad, api.NodeSwap:
			slots[n.Slot] = did
		}
		at = n.Next
		if n.Kind == api.NodeBranch && a == 0 {
			at = n.Else
		}
	}
	return l
}

// 15.8: what is not live may be any word, and the thread does the same; what is live may not always.
func TestNotLive(t *testing.T) {
	r := rand.New(rand.NewPCG(15, 8))
	matters := 0
	for range 1500 {
		u := anyUnit(t, r, 1)
		g, l := u.Graphs[0], live(t, u, 0)
		var reads []int64
		for range 100 {
			reads = append(reads, r.Int64N(3))
		}
		want := walk(g, reads, func(int, []int64) {})
		for _, isLive := range []bool{false, true} {
			got := walk(g, reads, func(at int, slots []int64) {
				for number := range slots {
					if slices.Contains(l[at], number) == isLive && r.IntN(3) == 0 {
						slots[number] = r.Int64()
					}
				}
			})
			if isSame := slices.Equal(got, want); !isSame && !isLive {
				s, _ := cfg.Print(u)
				t.Fatalf("%q, not %q, of\n%s", got, want, s)
			} else if !isSame {
				matters++
			}
		}
	}
	if matters < 500 {
		t.Error(matters)
	}
}

// answers is all that the package tells of a unit.
func answers(u api.Unit) string {
	a, why := regs.Assign(u, true)
	b, no := regs.Assign(u, false)
	x, is := regs.Right(u, a)
	s := fmt.Sprint(a, why, b, no, x, is)
	for thread, g := range u.Graphs {
		l, why := regs.Live(u, thread)
		s += fmt.Sprint(l, why)
		for number := range g.Slots {
			n, why := regs.Weight(u, thread, number)
			is, no := regs.Clash(u, thread, number, 0)
			s += fmt.Sprint(n, why, is, no)
		}
	}
	return s
}

// 15.4: answers are new memory, in all their lists; what is handed in is neither changed nor kept.
func TestNewMemory(t *testing.T) {
	r := rand.New(rand.NewPCG(15, 4))
	for range 60 {
		u := anyUnit(t, r, 3)
		same := api.Unit{Shared: slices.Clone(u.Shared), Locks: slices.Clone(u.Locks), Graphs: slices.Clone(u.Graphs)}
		for i := range same.Graphs {
			same.Graphs[i].Nodes = slices.Clone(u.Graphs[i].Nodes)
		}
		want := answers(u)
		for _, promote := range []bool{false, true} {
			l := assign(t, u, promote)
			was := fmt.Sprint(l)
			if right(t, u, l); fmt.Sprint(l) != was {
				t.Error("Right changes places")
			}
			for i := range l {
				rest := fmt.Sprint(slices.Delete(slices.Clone(l), i, i+1))
				clear(l[i].Places)
				_ = append(l[i].Places, api.Place{N: 9})
				if fmt.Sprint(slices.Delete(slices.Clone(l), i, i+1)) != rest {
					t.Error("two lists are one")
				}
			}
		}
		for thread := range u.Graphs {
			l := live(t, u, thread)
			for i := range l {
				rest := fmt.Sprint(slices.Delete(slices.Clone(l), i, i+1))
				clear(l[i])
				_ = append(l[i], 9)
				if fmt.Sprint(slices.Delete(slices.Clone(l), i, i+1)) != rest {
					t.Error("two lists are one")
				}
			}
		}
		if !cfg.Same(u, same) || answers(u) != want {
			t.Error("the unit, or an answer, is changed")
		}
	}
}

// P3, P4: the same answers at each time, and to many that ask at one time; no goroutine is left.
func TestAlways(t *testing.T) {
	before := runtime.NumGoroutine()
	r := rand.New(rand.NewPCG(15, 3))
	for range 20 {
		u := anyUnit(t, r, 3)
		want := answers(u)
		done := make(chan string)
		for range 6 {
			go func() { done <- answers(u) }()
		}
		for range 6 {
			if <-done != want {
				t.Error("two answers to one question")
			}
		}
	}
	for range 1000 {
		if runtime.NumGoroutine() <= before {
			return
		}
		time.Sleep(time.Millisecond)
	}
	t.Error("goroutines are left")
}

// P1: as many threads, nodes and slots as may be, of which all are live all over, and all clash that are set.
func TestGreat(t *testing.T) {
	u := api.Unit{}
	for i := range api.MaxThreads {
		g := api.Graph{Name: fmt.Sprint("t", i), Slots: api.MaxSlots}
		for at := range api.MaxNodes {
			n := api.Node{Kind: api.NodeSet, Op: api.OpAdd, Slot: at, A: slot(at), B: slot((at + api.MaxLocals) % api.MaxSlots)}
			n.Next, n.Origin = (at+1)%api.MaxNodes, at
			g.Nodes = append(g.Nodes, n)
		}
		u.Graphs = append(u.Graphs, g)
	}
	l := live(t, u, api.MaxThreads-1)
	if len(l) != api.MaxNodes || len(l[0]) != api.MaxSlots || len(l[api.MaxNodes-1]) != api.MaxSlots {
		t.Error("Live of a great unit")
	}
	if !clash(t, u, 0, 0, api.MaxSlots-1) || clash(t, u, 7, api.MaxSlots-1, api.MaxSlots-2) {
		t.Error("Clash of a great unit")
	}
	if n := weight(t, u, 0, api.MaxSlots-1); n != 8 {
		t.Error("Weight of a great unit", n)
	}
	a := assign(t, u, true)
	last := a[api.MaxThreads-1]
	// The lightest ones are never set: they do not clash with one another, but have a cell each, as all registers are held by what does.
	if last.Cells != api.MaxSlots-api.FreeRegs || !right(t, u, a) {
		t.Error("Assign of a great unit", last.Cells)
	}
	if b := assign(t, u, false); b[0].Cells != api.MaxSlots || !right(t, u, b) {
		t.Error("Assign of a great unit without registers")
	}
}
