package trace_test

import (
	"fmt"
	"math/rand/v2"
	"runtime"
	"slices"
	"strings"
	"testing"
	"time"

	"stile/api"
	"stile/cfg"
	"stile/gen"
	"stile/parse"
	"stile/regs"
	"stile/target"
	"stile/trace"
	"stile/vm"
)

// anyObject is a right object by chance, over variables, locks and words that are neither.
func anyObject(t *testing.T, r *rand.Rand) api.Object {
	t.Helper()
	o := api.Object{Buffer: 1 + r.IntN(3), Shared: r.IntN(3), Locks: r.IntN(3), Memory: []int64{0, 7, -8, 0, 9, 0}}
	for core := range 1 + r.IntN(3) {
		size := 2 + r.IntN(12)
		c := api.Core{Name: string(rune('a' + core))}
		for range size - 1 {
			i := api.Instr{D: r.IntN(3), Addr: r.IntN(len(o.Memory))}
			switch r.IntN(9) {
			case 0:
				i = api.Instr{Kind: api.InstrSet, D: i.D, Word: r.Int64N(5) - 2}
			case 1:
				i = api.Instr{Kind: api.InstrOp, Op: api.OpAdd, D: i.D, A: r.IntN(3), B: r.IntN(3)}
			case 2:
				i.Kind = api.InstrLoad
			case 3, 4, 5:
				i = api.Instr{Kind: api.InstrStore, A: i.D, Addr: i.Addr}
			case 6:
				i.Kind = api.InstrSwap
			case 7:
				i = api.Instr{Kind: api.InstrPrint, A: i.D}
			default:
				i = api.Instr{Kind: []api.InstrKind{api.InstrFence, api.InstrHalt}[r.IntN(2)]}
			}
			c.Code = append(c.Code, i)
		}
		o.Cores = append(o.Cores, api.Core{Name: c.Name, Code: append(c.Code, api.Instr{Kind: api.InstrJump, To: r.IntN(size)})})
	}
	if why, core, at := target.Check(o); why != api.OK {
		t.Fatal("Check: error", why, core, at)
	}
	return o
}

// built is the object of a program by chance, of threads that take locks, and give them back.
func built(t *testing.T, r *rand.Rand) api.Object {
	t.Helper()
	pick := func(l ...string) string { return l[r.IntN(len(l))] }
	s := "shared x, y = 4, g; lock l, m; "
	for _, name := range []string{"a", "b", "c"}[:2+r.IntN(2)] {
		s += "thread " + name + " { local r; while (r < 9) { r = r + 1; "
		for range 1 + r.IntN(3) {
			s += pick("x = r; ", "y = x + g; ", "r = r + swap; ", "print y; ", "lock l { g = g + 1; } ", "lock m { x = y; print g; lock l { g = 1; } } ", "lock m { } ")
		}
		s += "} } "
	}
	s = strings.ReplaceAll(s, "r = r + swap; ", "x = swap(y, r); ")
	p, why, f := parse.Parse(s)
	if why != api.OK {
		t.Fatalf("Parse(%q): error %d, %v", s, why, f)
	}
	u, _ := cfg.Lower(p)
	places, _ := regs.Assign(u, r.IntN(2) == 0)
	o, why := gen.Generate(u, make([][]int, len(u.Graphs)), places, 1+r.IntN(4))
	if why != api.OK {
		t.Fatal("Generate: error", why)
	}
	return o
}

// anySteps are steps by chance: at times of no core, or none at all.
func anySteps(r *rand.Rand, o api.Object, n int) []api.Step {
	lazy := 2 + r.IntN(6)
	l := make([]api.Step, n)
	for i := range l {
		l[i] = run(r.IntN(len(o.Cores)))
		if r.IntN(lazy) == 0 {
			l[i].Kind = api.StepDrain
		}
		switch r.IntN(60) {
		case 0:
			l[i].Core = []int{-1, len(o.Cores)}[r.IntN(2)]
		case 1:
			l[i].Kind = []api.StepKind{api.StepNone, api.StepCount}[r.IntN(2)]
		}
	}
	return l
}

// didsOf is what the chapter says that steps did.
func didsOf(t *testing.T, o api.Object, l []api.Step) []api.Did {
	t.Helper()
	m, why := vm.New(o)
	if why != api.OK {
		t.Fatal("New: error", why)
	}
	var dids []api.Did
	for _, s := range l {
		if d, why := m.Step(s); why == api.OK && d.Kind != api.DidNothing {
			dids = append(dids, d)
		}
	}
	return dids
}

// eventsOf is what the chapter says that came about.
func eventsOf(o api.Object, l []api.Did) []api.Event {
	var all []api.Event
	for at, d := range l {
		e := api.Event{Core: d.Core, At: at}
		isVariable, isLock := d.Addr < o.Shared, d.Addr >= o.Shared && d.Addr < o.Shared+o.Locks
		switch {
		case d.Kind == api.DidLoad && isVariable:
			e.Kind, e.Thing, e.Word, e.Own = api.EventLoad, d.Addr, d.Word, d.Own
		case d.Kind == api.DidDrain && isVariable:
			e.Kind, e.Thing, e.Word = api.EventStore, d.Addr, d.Word
		case d.Kind == api.DidSwap && isVariable:
			e.Kind, e.Thing, e.Word, e.Put = api.EventSwap, d.Addr, d.Word, d.Put
		case d.Kind == api.DidSwap && isLock && d.Word == 0 && d.Put != 0:
			e.Kind, e.Thing = api.EventLock, d.Addr-o.Shared
		case d.Kind == api.DidDrain && isLock && d.Word == 0:
			e.Kind, e.Thing = api.EventUnlock, d.Addr-o.Shared
		case d.Kind == api.DidPrint:
			e.Kind, e.Word = api.EventPrint, d.Word
		case d.Kind == api.DidHalt:
			e.Kind = api.EventHalt
		default:
			continue
		}
		all = append(all, e)
	}
	return all
}

// textOf is a run's text by the chapter's words.
func textOf(l []api.Did) string {
	s := ""
	for _, d := range l {
		s += fmt.Sprint(d.Core, " ", d.At, " ")
		switch d.Kind {
		case api.DidCompute:
			s += "compute"
		case api.DidLoad:
			s += fmt.Sprint("load ", d.Addr, " ", d.Word)
			if d.Own {
				s += " own"
			}
		case api.DidStore:
			s += fmt.Sprint("store ", d.Addr, " ", d.Word)
		case api.DidSwap:
			s += fmt.Sprint("swap ", d.Addr, " ", d.Word, " ", d.Put)
		case api.DidFence:
			s += "fence"
		case api.DidPrint:
			s += fmt.Sprint("print ", d.Word)
		case api.DidHalt:
			s += "halt"
		case api.DidDrain:
			s += fmt.Sprint("drain ", d.Addr, " ", d.Word)
		}
		s += "\n"
	}
	return s
}

// 19.1 to 19.4, 19.6, 19.7, 19.9: runs by chance, held against the chapter's words; done again, cut, written and read.
func TestRuns(t *testing.T) {
	r := rand.New(rand.NewPCG(19, 1))
	seen := map[string]int{}
	for n := range 3000 {
		o := anyObject(t, r)
		if n%6 == 0 {
			o = built(t, r)
		}
		l := anySteps(r, o, r.IntN(90))
		dids := of(t, o, l)
		if want := didsOf(t, o, l); !slices.Equal(dids, want) {
			t.Fatal(dids, "not", want)
		}
		all := events(t, o, dids)
		if want := eventsOf(o, dids); !slices.Equal(all, want) {
			t.Fatal(all, "not", want)
		}
		if s := printed(t, dids); s != textOf(dids) || !slices.Equal(parsed(t, s), dids) {
			t.Fatalf("%q, not %q", s, textOf(dids))
		}
		steps, why := trace.Steps(dids)
		if again := of(t, o, steps); why != api.OK || len(steps) != len(dids) || !slices.Equal(again, dids) {
			t.Fatal(steps, "do", again, "not", dids)
		}
		if n, why := trace.Check(o, dids); n != len(dids) || why != api.OK {
			t.Fatal("Check:", n, why)
		}
		front := of(t, o, l[:r.IntN(len(l)+1)])
		first := events(t, o, front)
		if !slices.Equal(front, dids[:len(front)]) || !slices.Equal(first, all[:len(first)]) {
			t.Fatal(front, first, "are no front of", dids, all)
		}
		seen["cut"] += min(1, len(dids)-len(front))
		for _, d := range dids {
			seen[fmt.Sprint("did ", d.Kind)]++
		}
		for _, e := range all {
			seen[fmt.Sprint("event ", e.Kind)]++
		}
	}
	for _, what := range strings.Split("cut,did 1,did 2,did 3,did 4,did 5,did 6,did 7,did 8,event 1,event 2,event 3,event 4,event 5,event 6,event 7", ",") {
		if seen[what] < 300 {
			t.Error("only", seen[what], "times", what)
		}
	}
}

// 19.2: runs of which one Did is another one, or is missing: Check tells the first place at which that is seen, held against what the machine does.
func TestSpoilt(t *testing.T) {
	r := rand.New(rand.NewPCG(19, 2))
	early, late, none := 0, 0, 0
	for range 4000 {
		o := anyObject(t, r)
		l := of(t, o, anySteps(r, o, 40))
		if len(l) < 2 {
			continue
		}
		at := r.IntN(len(l))
		switch r.IntN(4) {
		case 0:
			l = slices.Delete(l, at, at+1)
		case 1:
			l[at].Word++
		case 2:
			l[at], l[0] = l[0], l[at]
		default:
			l[at].Kind = api.DidKind(r.IntN(int(api.DidCount) + 1))
		}
		m, _ := vm.New(o)
		want := len(l)
		for i, d := range l {
			s := run(d.Core)
			if d.Kind == api.DidDrain {
				s = drain(d.Core)
			}
			if did, _ := m.Step(s); did != d || did == (api.Did{}) {
				want = i
				break
			}
		}
		switch {
		case want == len(l):
			none++
		case want > at:
			late++
		default:
			early++
		}
		if n, why := trace.Check(o, l); n != want || why != api.OK {
			t.Fatal(l, n, why, "not", want)
		}
	}
	if early < 1000 || late < 100 || none < 100 {
		t.Error(early, late, none)
	}
}

// 19.8: what loads and exchanges tell is what was left there last.
func TestRead(t *testing.T) {
	r := rand.New(rand.NewPCG(19, 8))
	seen := map[api.EventKind]int{}
	for n := range 3000 {
		o := anyObject(t, r)
		if n%3 == 0 {
			o = built(t, r)
		}
		left := slices.Clone(o.Memory)
		for _, e := range events(t, o, of(t, o, anySteps(r, o, 150))) {
			switch e.Kind {
			case api.EventLoad:
				if !e.Own && e.Word != left[e.Thing] {
					t.Fatal(e, "reads not", left[e.Thing])
				}
			case api.EventSwap:
				if e.Word != left[e.Thing] {
					t.Fatal(e, "finds not", left[e.Thing])
				}
				left[e.Thing] = e.Put
			case api.EventStore:
				left[e.Thing] = e.Word
			}
			seen[e.Kind]++
		}
	}
	if seen[api.EventLoad] < 5000 || seen[api.EventSwap] < 2000 || seen[api.EventStore] < 5000 {
		t.Error(seen)
	}
}

// 19.8: code that gives back only what it has taken does so in turns.
func TestTurns(t *testing.T) {
	r := rand.New(rand.NewPCG(19, 9))
	taken, back := 0, 0
	for range 300 {
		o := built(t, r)
		holder := map[int]int{}
		for _, e := range events(t, o, of(t, o, anySteps(r, o, 600))) {
			core, isHeld := holder[e.Thing]
			switch e.Kind {
			case api.EventLock:
				if isHeld {
					t.Fatal(e, "takes what", core, "has")
				}
				holder[e.Thing] = e.Core
				taken++
			case api.EventUnlock:
				if !isHeld || core != e.Core {
					t.Fatal(e, "gives back what", core, "has:", isHeld)
				}
				delete(holder, e.Thing)
				back++
			}
		}
	}
	if taken < 1000 || back < 800 {
		t.Error(taken, back)
	}
}

// spoil changes a text at a place or two.
func spoil(r *rand.Rand, s string) string {
	signs := []string{"", "0", "1", "9", "-", " ", "\n", " 5", "own", " own", "load", "halt\n", "print 3\n", "x", "\r", "4096", "8", "16384"}
	for range 1 + r.IntN(2) {
		at := r.IntN(len(s) + 1)
		to := min(len(s), at+r.IntN(3))
		s = s[:at] + signs[r.IntN(len(signs))] + s[to:]
	}
	return s
}

// 19.4, 19.9: texts that are nearly those of runs: what is read is written so; what is refused, at its first line that no right Did has.
func TestTexts(t *testing.T) {
	r := rand.New(rand.NewPCG(19, 4))
	read, refused := 0, 0
	for range 40000 {
		o := anyObject(t, r)
		s := spoil(r, printed(t, of(t, o, anySteps(r, o, 5))))
		l, why, line := trace.Parse(s)
		if why == api.OK {
			read++
			if textOf(l) != s || line != 0 || printed(t, l) != s {
				t.Fatalf("%q is read as %v", s, l)
			}
			continue
		}
		refused++
		want := 0
		for i, text := range strings.SplitAfter(s, "\n") {
			if alone, why, _ := trace.Parse(text); why != api.OK || len(alone) != 1 || textOf(alone) != text {
				want = i + 1
				break
			}
		}
		if l != nil || why != api.ErrLine || line != want {
			t.Fatalf("Parse(%q): %v, error %d, line %d, not %d", s, l, why, line, want)
		}
	}
	if read < 1000 || refused < 5000 {
		t.Error(read, refused)
	}
}

// answers is all that the package tells of an object and steps.
func answers(o api.Object, l []api.Step) string {
	dids, why := trace.Of(o, l)
	steps, no := trace.Steps(dids)
	n, not := trace.Check(o, dids)
	e, nor := trace.Events(o, dids)
	s, neither := trace.Print(dids)
	again, never, line := trace.Parse(s)
	return fmt.Sprint(dids, why, steps, no, n, not, e, nor, s, neither, again, never, line)
}

// 19.5: answers are new memory; what is handed in is neither changed nor kept.
func TestNewMemory(t *testing.T) {
	r := rand.New(rand.NewPCG(19, 5))
	for range 300 {
		o := anyObject(t, r)
		l := anySteps(r, o, 40)
		given, want := fmt.Sprint(o, l), answers(o, l)
		if fmt.Sprint(o, l) != given {
			t.Fatal("what is handed in is changed")
		}
		dids := of(t, o, l)
		was := fmt.Sprint(dids)
		steps, _ := trace.Steps(dids)
		e, s := events(t, o, dids), printed(t, dids)
		again := parsed(t, s)
		if _, why := trace.Check(o, dids); why != api.OK || fmt.Sprint(dids) != was {
			t.Fatal("Dids that are handed in are changed")
		}
		kept := fmt.Sprint(steps, e, s, again)
		clear(dids[:cap(dids)])
		if fmt.Sprint(steps, e, s, again) != kept {
			t.Fatal("what is handed in is kept")
		}
		clear(steps[:cap(steps)])
		clear(e[:cap(e)])
		clear(again[:cap(again)])
		if fmt.Sprint(o, l) != given || answers(o, l) != want {
			t.Fatal("an answer is another one's")
		}
	}
}

// P3, P4: the same answers at each time, and to many that ask at one time; no goroutine is left.
func TestAlways(t *testing.T) {
	before := runtime.NumGoroutine()
	r := rand.New(rand.NewPCG(19, 3))
	for range 40 {
		o := anyObject(t, r)
		l := anySteps(r, o, 60)
		want := answers(o, l)
		done := make(chan string)
		for range 6 {
			go func() { done <- answers(o, l) }()
		}
		for range 6 {
			if <-done != want {
				t.Error("two answers to one question")
			}
		}
	}
	for range 1000 {
		if runtime.NumGoroutine() <= before {
			return
		}
		time.Sleep(time.Millisecond)
	}
	t.Error("goroutines are left")
}
