package order_test

import (
	"fmt"
	"math/rand/v2"
	"runtime"
	"slices"
	"testing"
	"time"

	"stile/api"
	"stile/cfg"
	"stile/fences"
	"stile/gen"
	"stile/order"
	"stile/parse"
	"stile/regs"
	"stile/target"
	"stile/vm"
)

func isReader(d api.Deed) bool { return d.Kind == api.DeedRead || d.Kind == api.DeedBoth }

func isWriter(d api.Deed) bool { return d.Kind == api.DeedWrite || d.Kind == api.DeedBoth }

// someDeeds are events by chance, more stores and reads than others.
func someDeeds(r *rand.Rand, count, threads, things int) []api.Deed {
	kinds := []api.DeedKind{api.DeedRead, api.DeedRead, api.DeedRead, api.DeedWrite, api.DeedWrite, api.DeedWrite, api.DeedBoth, api.DeedFence}
	plenty := 6 + 2*r.IntN(2)
	l := make([]api.Deed, count)
	for i := range l {
		d := api.Deed{Kind: kinds[r.IntN(plenty)], Thread: r.IntN(threads), Thing: r.IntN(things)}
		if isWriter(d) {
			d.Put = r.Int64N(3)
		}
		if d.Kind == api.DeedFence {
			d.Thing = 0
		}
		l[i] = d
	}
	return l
}

// anyExecution is a right one: what is seen, and which writer comes when, is chance alone.
func anyExecution(r *rand.Rand, events []api.Deed, things int) api.Execution {
	x := api.Execution{First: make([]int64, things), Events: slices.Clone(events), After: make([][]int, things)}
	for _, at := range r.Perm(len(events)) {
		if d := events[at]; isWriter(d) {
			x.After[d.Thing] = append(x.After[d.Thing], at)
		}
	}
	for at, d := range events {
		from := -1
		if isReader(d) {
			can := append([]int{-1}, x.After[d.Thing]...)
			can = slices.DeleteFunc(can, func(n int) bool { return n == at })
			from = can[r.IntN(len(can))]
		}
		if from >= 0 {
			x.Events[at].Saw = events[from].Put
		}
		x.From = append(x.From, from)
	}
	return x
}

// inTime is an order of events in time: each thread's as they stand, but for some neighbours of two things that change about.
func inTime(r *rand.Rand, events []api.Deed, loose int) []int {
	threads := map[int][]int{}
	for at, d := range events {
		threads[d.Thread] = append(threads[d.Thread], at)
	}
	var l []int
	for _, i := range r.Perm(len(events)) {
		thread := events[i].Thread
		l = append(l, threads[thread][0])
		threads[thread] = threads[thread][1:]
	}
	for range loose {
		if len(l) < 2 {
			break
		}
		i := r.IntN(len(l) - 1)
		if events[l[i]].Thing != events[l[i+1]].Thing {
			l[i], l[i+1] = l[i+1], l[i]
		}
	}
	return l
}

// doneExecution is what comes of events that are done in an order, each store of which waits, if it is late, till its thread exchanges or fences, or chance has all that wait go to memory.
func doneExecution(r *rand.Rand, events []api.Deed, things int, order []int, late bool) api.Execution {
	x := api.Execution{First: make([]int64, things), Events: slices.Clone(events), After: make([][]int, things), From: slices.Repeat([]int{-1}, len(events))}
	waiting := map[int][]int{}
	drain := func(thread int) {
		for _, at := range waiting[thread] {
			x.After[events[at].Thing] = append(x.After[events[at].Thing], at)
		}
		waiting[thread] = nil
	}
	for _, at := range order {
		d := &x.Events[at]
		if !late || d.Kind == api.DeedBoth || d.Kind == api.DeedFence || r.IntN(6) == 0 {
			drain(d.Thread)
		}
		if isReader(*d) {
			x.From[at] = lastOf(x, d.Thing, waiting[d.Thread])
			if x.From[at] >= 0 {
				d.Saw = x.Events[x.From[at]].Put
			}
		}
		if isWriter(*d) {
			waiting[d.Thread] = append(waiting[d.Thread], at)
		}
		if !late || d.Kind == api.DeedBoth {
			drain(d.Thread)
		}
	}
	for _, d := range events {
		drain(d.Thread)
	}
	return x
}

// lastOf is the last of those that wait to write a thing, or what came to memory there last.
func lastOf(x api.Execution, thing int, waiting []int) int {
	for _, at := range slices.Backward(waiting) {
		if x.Events[at].Thing == thing {
			return at
		}
	}
	if l := x.After[thing]; len(l) > 0 {
		return l[len(l)-1]
	}
	return -1
}

// arrows are those of each name by the chapter's words.
func arrows(x api.Execution) map[string][][2]int {
	m := map[string][][2]int{}
	for a, d := range x.Events {
		for b, e := range x.Events {
			add := func(name string, is bool) {
				if is && a != b {
					m[name] = append(m[name], [2]int{a, b})
				}
			}
			isOne := d.Thing == e.Thing
			add("program", d.Thread == e.Thread && a < b)
			add("from", isReader(e) && x.From[b] == a)
			if isWriter(e) && isOne {
				l := x.After[d.Thing]
				add("after", isWriter(d) && slices.Index(l, a) < slices.Index(l, b))
				add("before", isReader(d) && slices.Index(l, b) > slices.Index(l, x.From[a]))
			}
		}
	}
	return m
}

// hasRing looks for a way from an event to itself.
func hasRing(events int, l [][2]int) bool {
	next := map[int][]int{}
	for _, a := range l {
		next[a[0]] = append(next[a[0]], a[1])
	}
	for start := range events {
		seen, todo := map[int]bool{}, slices.Clone(next[start])
		for len(todo) > 0 {
			at := todo[0]
			todo = todo[1:]
			if at == start {
				return true
			}
			if !seen[at] {
				seen[at] = true
				todo = append(todo, next[at]...)
			}
		}
	}
	return false
}

func those(l [][2]int, is func(a, b int) bool) [][2]int {
	var some [][2]int
	for _, a := range l {
		if is(a[0], a[1]) {
			some = append(some, a)
		}
	}
	return some
}

// verdictOf is the verdict by the chapter's words.
func verdictOf(x api.Execution) string {
	m := arrows(x)
	count := len(x.Events)
	kind := func(at int) api.DeedKind { return x.Events[at].Kind }
	ofOne := those(m["program"], func(a, b int) bool {
		return kind(a) != api.DeedFence && kind(b) != api.DeedFence && x.Events[a].Thing == x.Events[b].Thing
	})
	kept := those(m["program"], func(a, b int) bool { return !(kind(a) == api.DeedWrite && kind(b) == api.DeedRead) })
	others := those(m["from"], func(a, b int) bool { return x.Events[a].Thread != x.Events[b].Thread })
	c, t, p := "C", "T", "P"
	if hasRing(count, slices.Concat(m["from"], m["after"], m["before"], ofOne)) {
		c, t = "c", "t"
	}
	if hasRing(count, slices.Concat(m["after"], m["before"], others, kept)) {
		t = "t"
	}
	if hasRing(count, slices.Concat(m["program"], m["from"], m["after"], m["before"])) {
		p = "p"
	}
	return c + t + p
}

// leastLine goes through all lines, the least first, up to one in which each arrow leads on.
func leastLine(events int, l [][2]int, line []int) ([]int, bool) {
	if len(line) == events {
		return line, true
	}
	for at := range events {
		isNext := !slices.Contains(line, at)
		for _, a := range l {
			isNext = isNext && (a[1] != at || slices.Contains(line, a[0]))
		}
		if !isNext {
			continue
		}
		if whole, ok := leastLine(events, l, append(slices.Clone(line), at)); ok {
			return whole, true
		}
	}
	return nil, false
}

func readsIn(x api.Execution, line []int) []int {
	l := slices.Repeat([]int{-1}, len(line))
	for place, at := range line {
		for _, ahead := range line[:place] {
			if isReader(x.Events[at]) && isWriter(x.Events[ahead]) && x.Events[at].Thing == x.Events[ahead].Thing {
				l[at] = ahead
			}
		}
	}
	return l
}

// crossed are events of threads that touch each thing but once, mostly: so that most of what goes wrong goes wrong between things.
func crossed(r *rand.Rand, threads, things int) []api.Deed {
	var l []api.Deed
	for thread := range threads {
		for _, thing := range r.Perm(things) {
			switch r.IntN(8) {
			case 0:
				l = append(l, swap(thread, thing, 0, r.Int64N(3)))
			case 1:
				l = append(l, fence(thread))
			case 2, 3, 4:
				l = append(l, load(thread, thing, 0))
			default:
				l = append(l, store(thread, thing, r.Int64N(3)))
			}
		}
	}
	return l
}

// some is an execution by chance: any; or done in an order, early or late.
func some(r *rand.Rand, most int) api.Execution {
	if r.IntN(2) == 0 {
		things := 2 + r.IntN(2)
		return anyExecution(r, crossed(r, min(most/things, 2+r.IntN(3)), things), things)
	}
	things := []int{1, 2, 2, 2, 3}[r.IntN(5)]
	return of(r, someDeeds(r, r.IntN(most+1), []int{1, 2, 2, 2, 3, 4}[r.IntN(6)], things), things)
}

func of(r *rand.Rand, events []api.Deed, things int) api.Execution {
	if r.IntN(4) == 0 {
		return anyExecution(r, events, things)
	}
	x := doneExecution(r, events, things, inTime(r, events, r.IntN(2)*r.IntN(20)), r.IntN(2) == 0)
	if r.IntN(2) == 0 {
		seeOlder(r, x)
	}
	return x
}

// seeOlder has a few reads see what came to memory ahead of what they saw.
func seeOlder(r *rand.Rand, x api.Execution) {
	for at, d := range x.Events {
		if d.Kind != api.DeedRead || x.From[at] < 0 || r.IntN(3) > 0 {
			continue
		}
		l := x.After[d.Thing]
		place := slices.Index(l, x.From[at]) - 1
		if place < 0 {
			x.From[at], x.Events[at].Saw = -1, x.First[d.Thing]
		} else {
			x.From[at], x.Events[at].Saw = l[place], x.Events[l[place]].Put
		}
	}
}

// 22.2, 22.3, 22.6, 22.7: executions by chance, held against the chapter's words; a line of one that is plain shows it.
func TestByChance(t *testing.T) {
	r := rand.New(rand.NewPCG(22, 1))
	seen := map[string]int{}
	for range 30000 {
		x := some(r, 14)
		if why, at := order.Check(x); why != api.OK || at != 0 {
			t.Fatalf("Check(%v): error %d at %d", x, why, at)
		}
		got, want := verdict(t, x), verdictOf(x)
		if got != want {
			t.Fatalf("%v: %s, not %s", x, got, want)
		}
		seen[got]++
		m := arrows(x)
		all := slices.Concat(m["program"], m["from"], m["after"], m["before"])
		l, ok := line(t, x)
		if ok != (want == "CTP") {
			t.Fatalf("Line of %v: %v, %v", x, l, ok)
		}
		if ok || len(x.Events) < 7 { // to find none takes long
			if least, is := leastLine(len(x.Events), all, nil); is != ok || !slices.Equal(l, least) {
				t.Fatalf("Line of %v: %v, %v, not %v, %v", x, l, ok, least, is)
			}
		}
		if !ok {
			l = r.Perm(len(x.Events))
		}
		sees, why := order.Reads(x, l)
		if why != api.OK || !slices.Equal(sees, readsIn(x, l)) {
			t.Fatalf("Reads of %v in %v: %v, error %d", x, l, sees, why)
		}
		if !ok {
			continue
		}
		if !slices.Equal(sees, x.From) {
			t.Fatalf("Reads of %v in %v: %v", x, l, sees)
		}
		for thing, writers := range x.After {
			there := slices.DeleteFunc(slices.Clone(l), func(at int) bool { return !isWriter(x.Events[at]) || x.Events[at].Thing != thing })
			if !slices.Equal(there, writers) {
				t.Fatalf("the line %v of %v: %v write, not %v", l, x, there, writers)
			}
		}
	}
	for _, v := range []string{"ctp", "Ctp", "CTp", "CTP"} {
		if seen[v] < 100 {
			t.Error("only", seen[v], "times", v)
		}
	}
	if len(seen) != 4 { // what is plain is tso, what is tso is coherent
		t.Error(seen)
	}
}

// 22.7: what has no line is explained by none: no line at all has the same Reads, and the same writers in order.
func TestNoLine(t *testing.T) {
	r := rand.New(rand.NewPCG(22, 7))
	none := 0
	for range 8000 {
		x := some(r, 6)
		if _, ok := line(t, x); ok {
			continue
		}
		none++
		program := arrows(x)["program"]
		var try func(l []int)
		try = func(l []int) {
			if len(l) == len(x.Events) {
				sees, _ := order.Reads(x, l)
				isSame := slices.Equal(sees, x.From)
				for thing, writers := range x.After {
					isSame = isSame && slices.Equal(writers, slices.DeleteFunc(slices.Clone(l), func(at int) bool { return !isWriter(x.Events[at]) || x.Events[at].Thing != thing }))
				}
				if isSame {
					t.Fatalf("%v has no line, but %v explains it", x, l)
				}
				return
			}
			for at := range x.Events {
				isNext := !slices.Contains(l, at)
				for _, a := range program {
					isNext = isNext && (a[1] != at || slices.Contains(l, a[0]))
				}
				if isNext {
					try(append(slices.Clone(l), at))
				}
			}
		}
		try(nil)
	}
	if none < 1000 {
		t.Error(none)
	}
}

// 22.9, 22.10: with something between each store and each read behind it tso is plain; so is what is coherent and of one thread.
func TestFencedAndAlone(t *testing.T) {
	r := rand.New(rand.NewPCG(22, 9))
	fenced, alone := map[string]int{}, map[string]int{}
	for range 40000 {
		things := 2 + r.IntN(2)
		l := someDeeds(r, r.IntN(14), 2+r.IntN(2), things)
		if r.IntN(2) == 0 {
			l = crossed(r, 2+r.IntN(3), things)
		}
		var events []api.Deed
		open := map[int]bool{}
		for _, d := range l {
			if d.Kind == api.DeedRead && open[d.Thread] {
				events = append(events, fence(d.Thread))
				open[d.Thread] = false
			}
			open[d.Thread] = d.Kind == api.DeedWrite || d.Kind == api.DeedRead && open[d.Thread]
			events = append(events, d)
		}
		x := of(r, events, things)
		got := verdict(t, x)
		fenced[got]++
		if got == "CTp" {
			t.Fatalf("%v is tso, but not plain", x)
		}
		for at := range events {
			events[at].Thread = 5
		}
		x = of(r, events, things)
		got = verdict(t, x)
		alone[got]++
		if got[0] == 'C' && got != "CTP" {
			t.Fatalf("%v is coherent, and of one thread: %s", x, got)
		}
	}
	if fenced["CTP"] < 3000 || fenced["Ctp"] < 300 || alone["CTP"] < 3000 || alone["ctp"] < 3000 {
		t.Error(fenced, alone)
	}
}

// anyObject is a right object by chance: much that stores and loads, of few words.
func anyObject(t *testing.T, r *rand.Rand) api.Object {
	t.Helper()
	o := api.Object{Buffer: 1 + r.IntN(6), Memory: []int64{0, 1, 0, 2}[:[]int{1, 2, 2, 3, 4}[r.IntN(5)]]}
	o.Shared = r.IntN(len(o.Memory) + 1)
	plenty := []int{9, 12}[r.IntN(2)]
	for core := range []int{1, 2, 2, 3, 4}[r.IntN(5)] {
		size := 3 + r.IntN(10)
		c := api.Core{Name: string(rune('a' + core))}
		for range size {
			reg, addr := r.IntN(3), r.IntN(len(o.Memory))
			var i api.Instr
			switch r.IntN(plenty) {
			case 0:
				i = api.Instr{Kind: api.InstrSet, D: reg, Word: r.Int64N(4)}
			case 1:
				i = api.Instr{Kind: api.InstrOp, Op: api.OpAdd, D: reg, A: reg, B: r.IntN(3)}
			case 2, 3, 4:
				i = api.Instr{Kind: api.InstrLoad, D: reg, Addr: addr}
			case 5, 6, 7, 8:
				i = api.Instr{Kind: api.InstrStore, A: reg, Addr: addr}
			case 9:
				i = api.Instr{Kind: api.InstrSwap, D: reg, Addr: addr}
			case 10:
				i = api.Instr{Kind: api.InstrPrint, A: reg}
			default:
				i = api.Instr{Kind: []api.InstrKind{api.InstrFence, api.InstrHalt}[min(1, r.IntN(4))]}
				if i.Kind == api.InstrHalt && r.IntN(3) > 0 {
					i = api.Instr{Kind: api.InstrZero, A: reg, To: r.IntN(size)}
				}
			}
			c.Code = append(c.Code, i)
		}
		c.Code[size-1] = api.Instr{Kind: api.InstrJump, To: r.IntN(size)}
		o.Cores = append(o.Cores, c)
	}
	if why, core, at := target.Check(o); why != api.OK {
		t.Fatal("Check: error", why, core, at)
	}
	return o
}

func anySteps(r *rand.Rand, o api.Object, count int) []api.Step {
	lazy := 2 + r.IntN(20)
	l := make([]api.Step, count)
	for i := range l {
		l[i] = api.Step{Kind: api.StepRun, Core: r.IntN(len(o.Cores))}
		if r.IntN(lazy) == 0 {
			l[i].Kind = api.StepDrain
		}
		if r.IntN(40) == 0 {
			l[i] = []api.Step{{}, {Kind: api.StepCount}, {Kind: api.StepRun, Core: 9}, {Kind: api.StepDrain, Core: -1}}[r.IntN(4)]
		}
	}
	return l
}

// gatheredOf is the execution of a schedule by the chapter's words; false, if there are too many events. Each store is told by its instruction and how many its core did ahead of it.
func gatheredOf(t *testing.T, o api.Object, l []api.Step) (api.Execution, bool) {
	t.Helper()
	for core := range o.Cores {
		l = append(slices.Clone(l), slices.Repeat([]api.Step{{Kind: api.StepDrain, Core: core}}, o.Buffer)...)
	}
	dids, errs, why := vm.Play(o, l)
	if why != api.OK {
		t.Fatal("Play: error", why)
	}
	x := api.Execution{First: slices.Clone(o.Memory), After: make([][]int, len(o.Memory))}
	stores, drains := map[int][]int{}, map[int]int{}
	for i, d := range dids {
		if errs[i] != api.OK {
			continue
		}
		at, e, from := len(x.Events), api.Deed{Thread: d.Core}, -1
		if len(o.Memory) > d.Addr && len(x.After[d.Addr]) > 0 {
			from = x.After[d.Addr][len(x.After[d.Addr])-1]
		}
		switch d.Kind {
		case api.DidLoad:
			if d.Own {
				from = -1
				for _, s := range stores[d.Core] {
					if x.Events[s].Thing == d.Addr {
						from = s
					}
				}
			}
			e.Kind, e.Thing, e.Saw = api.DeedRead, d.Addr, d.Word
		case api.DidStore:
			e.Kind, e.Thing, e.Put, from = api.DeedWrite, d.Addr, d.Word, -1
			stores[d.Core] = append(stores[d.Core], at)
		case api.DidSwap:
			e.Kind, e.Thing, e.Saw, e.Put = api.DeedBoth, d.Addr, d.Word, d.Put
			x.After[d.Addr] = append(x.After[d.Addr], at)
		case api.DidFence, api.DidPrint:
			e.Kind, from = api.DeedFence, -1
		case api.DidDrain:
			x.After[d.Addr] = append(x.After[d.Addr], stores[d.Core][drains[d.Core]])
			drains[d.Core]++
			continue
		default:
			continue
		}
		x.Events, x.From = append(x.Events, e), append(x.From, from)
	}
	return x, len(x.Events) <= api.MaxEvents
}

// 22.4, 22.8: what is gathered is what the chapter says, right and tso; plain, if each store is drained at once.
func TestMachine(t *testing.T) {
	r := rand.New(rand.NewPCG(22, 8))
	seen := map[string]int{}
	for range 12000 {
		o := anyObject(t, r)
		l := anySteps(r, o, r.IntN(140))
		want, fits := gatheredOf(t, o, l)
		x, why := order.Gather(o, l)
		if !fits {
			seen["many"]++
			if why != api.ErrMany || x.Events != nil {
				t.Fatal("Gather: error", why)
			}
			continue
		}
		if why != api.OK || fmt.Sprint(x) != fmt.Sprint(want) {
			t.Fatalf("Gather: %v, error %d, not %v", x, why, want)
		}
		got := verdict(t, gather(t, o, l))
		if got[1] != 'T' {
			t.Fatalf("what the machine did is %s: %v", got, x)
		}
		seen[got]++
		var atOnce []api.Step
		for _, s := range l {
			if s.Kind == api.StepRun {
				atOnce = append(atOnce, s, api.Step{Kind: api.StepDrain, Core: s.Core})
			}
		}
		if x, why := order.Gather(o, atOnce); why == api.OK {
			seen["at once"]++
			if got := verdict(t, x); got != "CTP" {
				t.Fatalf("what the machine did at once is %s: %v", got, x)
			}
		}
	}
	if seen["many"] < 20 || seen["CTp"] < 600 || seen["CTP"] < 1000 || seen["at once"] < 5000 {
		t.Error(seen)
	}
}

// built is the object of a program by chance, with its fences or without.
func built(t *testing.T, r *rand.Rand, fenced bool) api.Object {
	t.Helper()
	pick := func(l ...string) string { return l[r.IntN(len(l))] }
	s := "shared x, y, z, g; lock l; "
	for _, name := range []string{"a", "b", "c"}[:2+r.IntN(2)] {
		s += "thread " + name + " { local r; "
		for range 2 + r.IntN(4) {
			s += pick("x = 1; r = y; ", "y = 1; r = x; ", "x = 1; ", "y = 2; ", "r = x; ", "r = y; ", "z = r; ", "x = 1; r = z; ", "r = swap(x, 3); ", "if (y) { z = 1; } ", "lock l { g = g + 1; } ", "lock l { g = 1; r = y; } ", "lock l { x = 1; } r = y; ")
		}
		s += "} "
	}
	p, why, f := parse.Parse(s)
	if why != api.OK {
		t.Fatalf("Parse(%q): error %d, %v", s, why, f)
	}
	u, _ := cfg.Lower(p)
	places, _ := regs.Assign(u, r.IntN(2) == 0)
	where := make([][]int, len(u.Graphs))
	if fenced {
		where, _ = fences.Place(u, r.IntN(2) == 0)
	}
	o, why := gen.Generate(u, where, places, 1+r.IntN(4))
	if why != api.OK {
		t.Fatal("Generate: error", why)
	}
	return o
}

// Runs of what is built with its fences are plain; of what has none, not all.
func TestBuilt(t *testing.T) {
	r := rand.New(rand.NewPCG(22, 13))
	seen := map[string]int{}
	for n := range 10000 {
		fenced := n%2 == 0
		o := built(t, r, fenced)
		x, why := order.Gather(o, anySteps(r, o, 30+r.IntN(60)))
		if why != api.OK {
			continue
		}
		got := verdict(t, x)
		seen[fmt.Sprint(got, fenced)]++
		if fenced && got != "CTP" {
			t.Fatalf("a run of what is built is %s: %v", got, x)
		}
	}
	if seen["CTPtrue"] < 2000 || seen["CTpfalse"] < 100 || seen["CTPfalse"] < 1000 {
		t.Error(seen)
	}
}

// answers is all that the package tells of an execution, and of an object.
func answers(x api.Execution, line []int, o api.Object, l []api.Step) string {
	why, at := order.Check(x)
	c, no := order.Coherent(x)
	p, not := order.Plain(x)
	s, nor := order.Tso(x)
	found, ok, neither := order.Line(x)
	sees, never := order.Reads(x, line)
	g, none := order.Gather(o, l)
	return fmt.Sprint(why, at, c, no, p, not, s, nor, found, ok, neither, sees, never, g, none)
}

func spoil(x api.Execution) {
	clear(x.First[:cap(x.First)])
	clear(x.Events[:cap(x.Events)])
	clear(x.From[:cap(x.From)])
	for _, l := range x.After {
		for at := range l[:cap(l)] {
			l[:cap(l)][at] = 77
		}
	}
}

// 22.5: answers are new memory, in all their lists; what is handed in is neither changed nor kept.
func TestNewMemory(t *testing.T) {
	r := rand.New(rand.NewPCG(22, 5))
	for range 500 {
		x := some(r, 9)
		way := r.Perm(len(x.Events))
		o := anyObject(t, r)
		l := anySteps(r, o, 30)
		given, want := fmt.Sprint(x, way, o, l), answers(x, way, o, l)
		if fmt.Sprint(x, way, o, l) != given {
			t.Fatal("what is handed in is changed")
		}
		g, why := order.Gather(o, l)
		if why != api.OK {
			continue
		}
		found, _, _ := order.Line(x)
		sees, _ := order.Reads(x, way)
		kept := fmt.Sprint(g.From, g.After, found, sees)
		clear(g.First)
		clear(g.Events)
		if fmt.Sprint(g.From, g.After, found, sees) != kept {
			t.Fatal("two lists of an answer are one")
		}
		for thing := range g.After { // nor does one grow into the next
			others := fmt.Sprint(g.After[thing+1:])
			_ = append(g.After[thing], 5, 6, 7, 8, 9)
			if fmt.Sprint(g.After[thing+1:]) != others {
				t.Fatal("two lists of an answer are one")
			}
		}
		spoil(g)
		clear(found[:cap(found)])
		clear(sees[:cap(sees)])
		if fmt.Sprint(x, way, o, l) != given || answers(x, way, o, l) != want {
			t.Fatal("an answer is another one's")
		}
		g, _ = order.Gather(o, l)
		found, _, _ = order.Line(x)
		sees, _ = order.Reads(x, way)
		kept = fmt.Sprint(g, found, sees)
		spoil(x)
		clear(way)
		clear(o.Memory)
		clear(o.Cores)
		clear(l)
		if fmt.Sprint(g, found, sees) != kept {
			t.Fatal("what is handed in is kept")
		}
	}
}

// P3, P4: the same answers at each time, and to many that ask at one time; no goroutine is left.
func TestAlways(t *testing.T) {
	before := runtime.NumGoroutine()
	r := rand.New(rand.NewPCG(22, 3))
	for range 40 {
		x := some(r, 9)
		way := r.Perm(len(x.Events))
		o := anyObject(t, r)
		l := anySteps(r, o, 30)
		want := answers(x, way, o, l)
		done := make(chan string)
		for range 6 {
			go func() { done <- answers(x, way, o, l) }()
		}
		for range 6 {
			if <-done != want {
				t.Error("two answers to one question")
			}
		}
	}
	for range 1000 {
		if runtime.NumGoroutine() <= before {
			return
		}
		time.Sleep(time.Millisecond)
	}
	t.Error("goroutines are left")
}
