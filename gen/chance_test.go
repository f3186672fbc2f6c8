package gen_test

import (
	"fmt"
	"math/rand/v2"
	"runtime"
	"slices"
	"strings"
	"testing"
	"time"

	"stile/api"
	"stile/cfg"
	"stile/fences"
	"stile/gen"
	"stile/regs"
	"stile/target"
	"stile/words"
)

// grown are statements by chance, of shared x, y, p, locks l, m and locals r, s, u.
func grown(r *rand.Rand, wide int) string {
	pick := func(l ...string) string { return l[r.IntN(len(l))] }
	value := func() string { return pick("x", "y", "p", "r", "s", "u", "1", "0", "2") }
	said := func() string {
		return pick(value(), value(), value()+pick(" + ", " - ", " * ", " < ", " == ", " / ")+value(), "!"+value(), "-("+value()+" % "+value()+")")
	}
	s := ""
	for range 1 + r.IntN(4) {
		kind := r.IntN(12)
		if wide == 0 {
			kind = 4 + r.IntN(8)
		}
		switch kind {
		case 0, 1:
			s += "if (" + said() + ") {" + grown(r, wide-1) + "} else {" + pick("", grown(r, wide-1)) + "} "
		case 2:
			// It goes round but a few times, so that most threads end.
			s += "u = " + pick("0", "1", "2", "3") + "; while (u" + pick(" > 0", "") + ") {" + grown(r, wide-1) + " u = u - 1; } "
		case 3:
			s += "lock " + pick("l", "m") + " {" + grown(r, wide-1) + "} "
		case 4:
			s += pick("r", "x", "y") + " = swap(" + pick("x", "y", "p") + ", " + said() + "); "
		case 5, 6:
			s += "print " + said() + "; "
		case 7:
			s += pick("skip; ", "if (x) { } ")
		default:
			s += pick("x", "y", "p", "r", "s", "u") + " = " + said() + "; "
		}
	}
	return s
}

func grownUnit(t *testing.T, r *rand.Rand, threads int) api.Unit {
	t.Helper()
	s := "shared x, y = -2, p = 3; lock l, m; "
	for i := range threads {
		s += "thread " + string(rune('a'+i)) + " { local r, s, u; " + grown(r, 2) + "} "
	}
	return unit(t, s)
}

// anyUnit is a unit by chance, often such as no program has: links lead elsewhere, nodes are not reached, origins are any.
func anyUnit(t *testing.T, r *rand.Rand) api.Unit {
	t.Helper()
	u := grownUnit(t, r, 1+r.IntN(3))
	if r.IntN(3) == 0 {
		return u
	}
	for range r.IntN(12) {
		nodes := u.Graphs[r.IntN(len(u.Graphs))].Nodes
		n := &nodes[r.IntN(len(nodes))]
		was := *n
		n.Origin = r.IntN(api.MaxNodes)
		switch {
		case n.Kind == api.NodeEnd:
		case n.Kind == api.NodeBranch && r.IntN(2) == 0:
			n.Else = r.IntN(len(nodes))
		case n.Kind == api.NodeBranch && r.IntN(2) == 0:
			n.Else = n.Next
		default:
			n.Next = r.IntN(len(nodes))
		}
		if why, _, _ := cfg.Check(u); why != api.OK {
			*n = was
		}
	}
	return u
}

// someFences are fences by chance; somePlaces, places that are Right, often with cells that nobody asks for.
func someFences(r *rand.Rand, u api.Unit) [][]int {
	l := bare(u)
	for thread, g := range u.Graphs {
		rare := 1 + r.IntN(6)
		for node := range g.Nodes {
			if r.IntN(rare) == 0 {
				l[thread] = append(l[thread], node)
			}
		}
	}
	return l
}

func somePlaces(t *testing.T, r *rand.Rand, u api.Unit) []api.Alloc {
	t.Helper()
	l := assign(t, u, r.IntN(2) == 0)
	for thread := range l {
		a := &l[thread]
		a.Cells += r.IntN(4)
		for range 20 * r.IntN(2) {
			if a.Cells == 0 || len(a.Places) == 0 {
				break
			}
			number := r.IntN(len(a.Places))
			was := a.Places[number]
			a.Places[number] = reg(r.IntN(api.FreeRegs))
			if r.IntN(2) == 0 {
				a.Places[number] = cell(r.IntN(a.Cells))
			}
			if is, _ := regs.Right(u, l); !is {
				a.Places[number] = was
			}
		}
	}
	return l
}

// teller writes a thread's code by the chapter's words: each instruction's text, where a node's number behind a sign # stands for its first one's.
type teller struct {
	u     api.Unit
	a     api.Alloc
	first int // the thread's cell 0
}

func (x teller) at(slot int) (string, bool) {
	p := x.a.Places[slot]
	if p.InCell {
		return fmt.Sprint(x.first + p.N), false
	}
	return fmt.Sprint("r", p.N), true
}

func (x teller) fetch(v api.Value, r string) ([]string, string) {
	if !v.IsSlot {
		return []string{"set " + r + " " + fmt.Sprint(v.Word)}, r
	}
	at, isReg := x.at(v.Slot)
	if isReg {
		return nil, at
	}
	return []string{"load " + r + " " + at}, r
}

func (x teller) move(v api.Value, r string) []string {
	l, in := x.fetch(v, r)
	if in != r || l == nil {
		l = []string{"or " + r + " " + in + " " + in}
	}
	return l
}

// defined is what a node does with its slot: its target's name, and what keeps it.
func (x teller) defined(slot int) (string, []string) {
	at, isReg := x.at(slot)
	if isReg {
		return at, nil
	}
	return "r15", []string{"store r15 " + at}
}

func (x teller) node(n api.Node, begin int) []string {
	to, keep := "", []string(nil)
	if n.Kind == api.NodeSet || n.Kind == api.NodeLoad || n.Kind == api.NodeSwap {
		to, keep = x.defined(n.Slot)
	}
	thing := fmt.Sprint(n.Thing)
	lock := fmt.Sprint(len(x.u.Shared) + n.Thing)
	a, ra := x.fetch(n.A, "r13")
	switch n.Kind {
	case api.NodeSet:
		names := strings.Fields("- add sub mul div rem and or xor shl shr is isnot less most above least minus not")
		switch {
		case n.Op == api.OpNone:
			return append(x.move(n.A, to), keep...)
		case words.Two(n.Op):
			b, rb := x.fetch(n.B, "r14")
			return slices.Concat(a, b, []string{names[n.Op] + " " + to + " " + ra + " " + rb}, keep)
		}
		return slices.Concat(a, []string{names[n.Op] + " " + to + " " + ra}, keep)
	case api.NodeLoad:
		return append([]string{"load " + to + " " + thing}, keep...)
	case api.NodeStore:
		return append(a, "store "+ra+" "+thing)
	case api.NodeSwap:
		l := append(x.move(n.A, "r15"), "swap r15 "+thing)
		if len(keep) == 0 {
			return append(l, "or "+to+" r15 r15")
		}
		return append(l, keep...)
	case api.NodeLock:
		return []string{"set r15 1", "swap r15 " + lock, fmt.Sprint("zero r15 ", begin+4), fmt.Sprint("jump ", begin)}
	case api.NodeUnlock:
		return []string{"set r15 0", "store r15 " + lock}
	case api.NodePrint:
		return append(a, "print "+ra)
	case api.NodeBranch:
		if n.Else == n.Next {
			return nil
		}
		return append(a, fmt.Sprint("zero ", ra, " #", n.Else))
	}
	return []string{"halt"}
}

func (x teller) code(g api.Graph, fences []int) ([]string, []int) {
	var l []string
	var starts []int
	for number, n := range g.Nodes {
		starts = append(starts, len(l))
		var own []string
		if slices.Contains(fences, number) {
			own = append(own, "fence")
		}
		own = append(own, x.node(n, len(l)+len(own))...)
		if n.Kind != api.NodeEnd && n.Next != number+1 {
			own = append(own, fmt.Sprint("jump #", n.Next))
		}
		for _, s := range own {
			l = append(l, fmt.Sprint(s, " @", n.Origin+1))
		}
	}
	for i, s := range l {
		if head, rest, is := strings.Cut(s, "#"); is {
			var node int
			fmt.Sscan(rest, &node)
			l[i] = fmt.Sprint(head, starts[node], rest[strings.Index(rest, " "):])
		}
	}
	return l, starts
}

// 17.1 to 17.3, 17.5, 17.7, 17.8: units, fences and places by chance, held against the chapter's words.
func TestByChance(t *testing.T) {
	r := rand.New(rand.NewPCG(17, 1))
	seen := map[string]int{}
	for range 2500 {
		u := anyUnit(t, r)
		fences, places := someFences(r, u), somePlaces(t, r, u)
		buffer := 1 + r.IntN(api.MaxBuffer)
		o, begin := generate(t, u, fences, places, buffer), starts(t, u, fences, places)
		if why, core, at := target.Check(o); why != api.OK {
			t.Fatal("Check: error", why, core, at)
		}
		cells := len(u.Shared) + len(u.Locks)
		memory := make([]int64, cells)
		for i, d := range u.Shared {
			memory[i] = d.Word
		}
		for _, a := range places {
			memory = append(memory, make([]int64, a.Cells)...)
		}
		if !slices.Equal(o.Memory, memory) || o.Shared != len(u.Shared) || o.Locks != len(u.Locks) || o.Buffer != buffer || len(o.Cores) != len(u.Graphs) || len(begin) != len(u.Graphs) {
			t.Fatal(o, begin, "of", u)
		}
		for thread, g := range u.Graphs {
			want, first := teller{u, places[thread], cells}.code(g, fences[thread])
			if got := lines(o.Cores[thread]); o.Cores[thread].Name != g.Name || got != strings.Join(want, "|") || !slices.Equal(begin[thread], first) {
				s, _ := cfg.Print(u)
				t.Fatalf("%q, %v, not %q, %v, of thread %d, %v, fences %v of\n%s", got, begin[thread], want, first, thread, places[thread], fences[thread], s)
			}
			ownThings(t, o, u, thread, cells, places[thread].Cells)
			fenced(t, o.Cores[thread].Code, begin[thread], fences[thread])
			for n := range places[thread].Cells {
				if at, why := gen.Cell(u, places, thread, n); at != cells+n || why != api.OK {
					t.Fatal("Cell of", thread, n, at, "error", why)
				}
			}
			cells += places[thread].Cells
			seen[fmt.Sprint("cells ", places[thread].Cells > 0)]++
			seen[fmt.Sprint("fences ", len(fences[thread]) > 0)]++
			seen[fmt.Sprint("reached ", !slices.Contains(cfg.Reached(g), false))]++
			for _, n := range g.Nodes {
				seen[fmt.Sprint("kind ", n.Kind)]++
			}
		}
	}
	for _, what := range strings.Split("cells true,cells false,fences true,fences false,reached true,reached false,kind 1,kind 2,kind 3,kind 4,kind 5,kind 6,kind 7,kind 8,kind 9", ",") {
		if seen[what] < 300 {
			t.Error(what, seen[what])
		}
	}
}

// ownThings holds that a core's code names no cells but its own, and no variable or lock that its graph does not.
func ownThings(t *testing.T, o api.Object, u api.Unit, thread, first, cells int) {
	t.Helper()
	var named []int
	for _, n := range u.Graphs[thread].Nodes {
		switch n.Kind {
		case api.NodeLoad, api.NodeStore, api.NodeSwap:
			named = append(named, n.Thing)
		case api.NodeLock, api.NodeUnlock:
			at, _ := gen.Lock(u, n.Thing)
			named = append(named, at)
		}
	}
	for at, i := range o.Cores[thread].Code {
		switch i.Kind {
		case api.InstrLoad, api.InstrStore, api.InstrSwap:
			if !slices.Contains(named, i.Addr) && (i.Addr < first || i.Addr >= first+cells) {
				t.Fatal("thread", thread, "at", at, "names", i.Addr)
			}
		}
	}
}

// fenced holds that there are as many fences as there must be, each its node's first instruction.
func fenced(t *testing.T, code []api.Instr, begin, fences []int) {
	t.Helper()
	count := 0
	for _, i := range code {
		if i.Kind == api.InstrFence {
			count++
		}
	}
	for _, node := range fences {
		if i := code[begin[node]]; i.Kind != api.InstrFence {
			t.Fatal(i, "ahead of node", node)
		}
	}
	if count != len(fences) {
		t.Fatal(count, "fences, not", len(fences))
	}
}

// answers is all that the package tells of a unit.
func answers(u api.Unit, fences [][]int, places []api.Alloc) string {
	o, why := gen.Generate(u, fences, places, 3)
	l, no := gen.Starts(u, fences, places)
	a, not := gen.Lock(u, 1)
	b, nor := gen.Cell(u, places, 0, 0)
	return fmt.Sprint(o, why, l, no, a, not, b, nor)
}

// 17.4: answers are new memory, in all their lists; what is handed in is neither changed nor kept.
func TestNewMemory(t *testing.T) {
	r := rand.New(rand.NewPCG(17, 4))
	for range 300 {
		u := grownUnit(t, r, 3)
		fences, places := someFences(r, u), somePlaces(t, r, u)
		given := func() string { return fmt.Sprint(u, fences, places) }
		was, want := given(), answers(u, fences, places)
		o, l := generate(t, u, fences, places, 3), starts(t, u, fences, places)
		for i := range o.Cores {
			before := fmt.Sprint(o.Memory, o.Cores[:i], l[:i], fmt.Sprint(o.Cores[i+1:], l[i+1:]))
			_, _ = append(o.Cores[i].Code, api.Instr{Kind: 7}), append(l[i], 7)
			clear(o.Cores[i].Code)
			clear(l[i])
			if after := fmt.Sprint(o.Memory, o.Cores[:i], l[:i], fmt.Sprint(o.Cores[i+1:], l[i+1:])); after != before {
				t.Error("two lists are one")
			}
		}
		clear(o.Memory[:cap(o.Memory)])
		clear(o.Cores)
		clear(l)
		if given() != was || answers(u, fences, places) != want {
			t.Error("what is handed in, or an answer, is changed")
		}
		o, l = generate(t, u, fences, places, 3), starts(t, u, fences, places)
		told := fmt.Sprint(o, l)
		for i := range u.Graphs {
			clear(u.Graphs[i].Nodes)
			clear(fences[i])
			clear(places[i].Places)
		}
		clear(u.Shared)
		clear(u.Graphs)
		clear(fences)
		clear(places)
		if fmt.Sprint(o, l) != told {
			t.Error("what is handed in is kept")
		}
	}
}

// P3, P4: the same answers at each time, and to many that ask at one time; no goroutine is left.
func TestAlways(t *testing.T) {
	before := runtime.NumGoroutine()
	r := rand.New(rand.NewPCG(17, 3))
	for range 40 {
		u := anyUnit(t, r)
		f, why := fences.Place(u, true)
		if why != api.OK {
			t.Fatal("Place: error", why)
		}
		places := assign(t, u, true)
		want := answers(u, f, places)
		done := make(chan string)
		for range 6 {
			go func() { done <- answers(u, f, places) }()
		}
		for range 6 {
			if <-done != want {
				t.Error("two answers to one question")
			}
		}
	}
	for range 1000 {
		if runtime.NumGoroutine() <= before {
			return
		}
		time.Sleep(time.Millisecond)
	}
	t.Error("goroutines are left")
}
