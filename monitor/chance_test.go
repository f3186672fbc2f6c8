package monitor_test

import (
	"fmt"
	"math/rand/v2"
	"runtime"
	"slices"
	"strings"
	"testing"
	"time"

	"stile/api"
	"stile/cfg"
	"stile/gen"
	"stile/monitor"
	"stile/regs"
	"stile/trace"
	"stile/vm"
)

// anyDids are right Dids by chance: much that takes locks, leaves them, gives them back, much that touches variables; of a few words, so that much is read that was written last.
func anyDids(r *rand.Rand, o api.Object) []api.Did {
	cores, lazy := 1+r.IntN(3), r.IntN(8)
	l := make([]api.Did, r.IntN(40))
	for at := range l {
		d := api.Did{Core: r.IntN(cores), At: r.IntN(3), Addr: r.IntN(len(o.Memory) + 1)}
		switch r.IntN(8 + lazy) {
		case 0:
			d = api.Did{Kind: []api.DidKind{api.DidCompute, api.DidFence, api.DidHalt, api.DidPrint}[r.IntN(4)], Core: d.Core}
		case 1, 2:
			d.Kind, d.Word, d.Put = api.DidSwap, r.Int64N(2)*r.Int64N(2), r.Int64N(3)
		case 3:
			d.Kind, d.Word = api.DidDrain, r.Int64N(2)*r.Int64N(2)
		case 4, 5:
			d.Kind, d.Word = api.DidStore, r.Int64N(2)*r.Int64N(3)
		default:
			d.Kind, d.Word, d.Own = api.DidLoad, r.Int64N(2), r.IntN(2) == 0
		}
		l[at] = d
	}
	return l
}

// anyObject has a few variables and locks, and a word behind them.
func anyObject(r *rand.Rand) api.Object {
	o := api.Object{Shared: r.IntN(4), Locks: r.IntN(4), Buffer: 1}
	o.Memory = make([]int64, o.Shared+o.Locks+1)
	for thing := range o.Shared {
		o.Memory[thing] = r.Int64N(2)
	}
	return o
}

func anyClasses(r *rand.Rand, o api.Object) []api.Class {
	l := make([]api.Class, o.Shared)
	for thing := range l {
		l[thing] = api.Class{Kind: api.ClassGuarded, Lock: r.IntN(o.Locks + 1), Thread: r.IntN(3)}
		if r.IntN(4) == 0 {
			l[thing].Kind = api.ClassKind(r.IntN(6))
		}
	}
	return l
}

// model is what the chapter says of a run, read anew: each question is asked of the whole list.
type model struct {
	o       api.Object
	classes []api.Class
	l       []api.Did
}

func (x model) isLock(addr int) bool { return addr >= x.o.Shared && addr < x.o.Shared+x.o.Locks }

func (x model) takes(d api.Did) bool {
	return d.Kind == api.DidSwap && x.isLock(d.Addr) && d.Word == 0 && d.Put != 0
}

// next is the first place behind one of which something is so.
func (x model) next(behind int, is func(d api.Did) bool) int {
	for at := behind + 1; at < len(x.l); at++ {
		if is(x.l[at]) {
			return at
		}
	}
	return -1
}

func (x model) blocks() []api.Block {
	var l []api.Block
	for at, d := range x.l {
		if !x.takes(d) {
			continue
		}
		zero := func(kind api.DidKind) int {
			return x.next(at, func(e api.Did) bool {
				return e.Kind == kind && e.Core == d.Core && e.Addr == d.Addr && e.Word == 0
			})
		}
		l = append(l, api.Block{Lock: d.Addr - x.o.Shared, Core: d.Core, From: at, Left: zero(api.DidStore), To: zero(api.DidDrain)})
	}
	return l
}

func (x model) holders() []int {
	l := make([]int, x.o.Locks)
	for lock := range l {
		greatest := api.Block{From: -1, Core: -1, To: -1}
		for _, b := range x.blocks() {
			if b.Lock == lock && b.From > greatest.From {
				greatest = b
			}
		}
		l[lock] = greatest.Core
		if greatest.To >= 0 {
			l[lock] = -1
		}
	}
	return l
}

func (x model) crowd() int {
	if l := x.crowds(); len(l) > 0 {
		return slices.Min(l)
	}
	return -1
}

// crowds are all places at which a lock is taken that is not free.
func (x model) crowds() []int {
	var l []int
	for _, b := range x.blocks() {
		for _, ahead := range x.blocks() {
			if ahead.Lock == b.Lock && ahead.From < b.From && !(ahead.To >= 0 && ahead.To < b.From) {
				l = append(l, b.From)
			}
		}
	}
	return l
}

func reads(d api.Did) bool { return d.Kind == api.DidLoad || d.Kind == api.DidSwap }

func (x model) last(thing, ahead int) int64 {
	w := x.o.Memory[thing]
	for _, d := range x.l[:ahead] {
		if d.Addr == thing && d.Kind == api.DidStore {
			w = d.Word
		}
		if d.Addr == thing && d.Kind == api.DidSwap {
			w = d.Put
		}
	}
	return w
}

func (x model) hands() []api.Hand {
	var l []api.Hand
	for _, b := range x.blocks() {
		for thing, c := range x.classes {
			if c.Kind != api.ClassGuarded || c.Lock != b.Lock {
				continue
			}
			at := x.next(b.From, func(d api.Did) bool {
				return d.Core == b.Core && d.Addr == thing && (reads(d) || d.Kind == api.DidStore)
			})
			if at >= 0 && (b.To < 0 || at < b.To) && reads(x.l[at]) {
				l = append(l, api.Hand{Thing: thing, Core: b.Core, At: at, Read: x.l[at].Word, Last: x.last(thing, at)})
			}
		}
	}
	return l
}

func (x model) stale() int {
	for at, d := range x.l {
		if reads(d) && d.Addr < x.o.Shared && x.classes[d.Addr].Kind == api.ClassGuarded && d.Word != x.last(d.Addr, at) {
			return at
		}
	}
	return -1
}

// 23.1, 23.2: lists of Dids by chance, such as no run has, too, held against the chapter's words.
func TestByChance(t *testing.T) {
	r := rand.New(rand.NewPCG(23, 1))
	seen := map[string]int{}
	for range 40000 {
		o := anyObject(r)
		x := model{o, anyClasses(r, o), anyDids(r, o)}
		got, why := monitor.Blocks(o, x.l)
		if want := x.blocks(); !slices.Equal(got, want) || why != api.OK {
			t.Fatalf("Blocks of %v: %v, error %d, not %v", x, got, why, want)
		}
		holders, why := monitor.Holders(o, x.l)
		if want := x.holders(); !slices.Equal(holders, want) || why != api.OK {
			t.Fatalf("Holders of %v: %v, error %d, not %v", x, holders, why, want)
		}
		crowd, why := monitor.Crowd(o, x.l)
		if want := x.crowd(); crowd != want || why != api.OK {
			t.Fatalf("Crowd of %v: %d, error %d, not %d", x, crowd, why, want)
		}
		hands, why := monitor.Hands(o, x.classes, x.l)
		if want := x.hands(); !slices.Equal(hands, want) || why != api.OK {
			t.Fatalf("Hands of %v: %v, error %d, not %v", x, hands, why, want)
		}
		stale, why := monitor.Stale(o, x.classes, x.l)
		if want := x.stale(); stale != want || why != api.OK {
			t.Fatalf("Stale of %v: %d, error %d, not %d", x, stale, why, want)
		}
		seen["blocks"] += min(1, len(got))
		seen["hands"] += min(1, len(hands))
		seen["crowd"] += min(1, crowd+1)
		seen["stale"] += min(1, stale+1)
	}
	if seen["blocks"] < 5000 || seen["hands"] < 2000 || seen["crowd"] < 2000 || seen["stale"] < 5000 {
		t.Error(seen)
	}
}

// grown are statements by chance: of g under the lock l, of h under m, of x anywhere.
func grown(r *rand.Rand, wide int, held string) string {
	pick := func(l ...string) string { return l[r.IntN(len(l))] }
	things := []string{"x"}
	for _, lock := range held {
		things = append(things, map[rune]string{'l': "g", 'm': "h"}[lock])
	}
	value := func() string { return pick(pick(things...), pick(things...)+" + 1", "r", "2") }
	s := ""
	for range 1 + r.IntN(3) {
		kind := r.IntN(10)
		if wide == 0 {
			kind = 5 + r.IntN(5)
		}
		switch kind {
		case 0:
			s += "if (" + value() + ") {" + grown(r, wide-1, held) + "} else {" + grown(r, wide-1, held) + "} "
		case 1, 2, 3, 4:
			lock := pick("l", "m", "l")
			for strings.Contains(held, lock) && r.IntN(8) > 0 { // else it waits for itself
				lock = pick("l", "m")
			}
			s += "lock " + lock + " {" + grown(r, wide-1, held+lock) + "} "
		case 5:
			s += "print " + value() + "; "
		case 6:
			s += "r = swap(" + pick(things...) + ", " + value() + "); "
		default:
			s += pick("r", pick(things...), things[len(things)-1]) + " = " + value() + "; "
		}
	}
	return s
}

// anyUnit is that of a program by chance, at times with links that lead elsewhere, such as no program has.
func anyUnit(t *testing.T, r *rand.Rand) api.Unit {
	t.Helper()
	s := "shared g, h = 3, x; lock l, m; "
	for thread := range 2 + r.IntN(2) {
		s += "thread " + string(rune('a'+thread)) + " { local r; lock l {" + grown(r, 1, "l") + "}" + grown(r, 2, "") + "} "
	}
	u := unit(t, s)
	for range r.IntN(2) * r.IntN(6) {
		nodes := u.Graphs[r.IntN(len(u.Graphs))].Nodes
		n := &nodes[r.IntN(len(nodes))]
		was := *n
		if n.Kind != api.NodeEnd {
			n.Next = r.IntN(len(nodes))
		}
		if why, _, _ := cfg.Check(u); why != api.OK {
			*n = was
		}
	}
	return u
}

// someObject is what gen makes of a unit, with whatever fences and places.
func someObject(t *testing.T, r *rand.Rand, u api.Unit) api.Object {
	t.Helper()
	places, why := regs.Assign(u, r.IntN(2) == 0)
	if why != api.OK {
		t.Fatal("Assign: error", why)
	}
	where := make([][]int, len(u.Graphs))
	for thread, g := range u.Graphs {
		for n := range g.Nodes {
			if r.IntN(12) == 0 {
				where[thread] = append(where[thread], n)
			}
		}
	}
	o, why := gen.Generate(u, where, places, 1+r.IntN(4))
	if why != api.OK {
		t.Fatal("Generate: error", why)
	}
	return o
}

// anyRun is a run by chance: now one core goes on for a while, now all do; buffers drain early or late.
func anyRun(t *testing.T, r *rand.Rand, o api.Object, most int) []api.Did {
	t.Helper()
	m, why := vm.New(o)
	if why != api.OK {
		t.Fatal("New: error", why)
	}
	lazy, fair := 2+r.IntN(12), 1+r.IntN(6)
	var steps []api.Step
	core := 0
	for range most {
		if m.Ended() {
			break
		}
		if r.IntN(fair) == 0 {
			core = r.IntN(len(o.Cores))
		}
		s := api.Step{Kind: api.StepRun, Core: core}
		if r.IntN(lazy) == 0 {
			s = api.Step{Kind: api.StepDrain, Core: r.IntN(len(o.Cores))}
		}
		m.Step(s)
		steps = append(steps, s)
	}
	l, why := trace.Of(o, steps)
	if why != api.OK {
		t.Fatal("Of: error", why)
	}
	return l
}

// 23.4 to 23.6: of what gen makes, whatever the fences and the steps: one is inside, what is handed over is what was written last, and blocks of one lock come in turns, each left ahead of being given back.
func TestRuns(t *testing.T) {
	r := rand.New(rand.NewPCG(23, 4))
	seen := map[string]int{}
	for range 2000 {
		u := anyUnit(t, r)
		o := someObject(t, r, u)
		classes := classesOf(t, u)
		l := anyRun(t, r, o, 500)
		if at, why := monitor.Crowd(o, l); at != -1 || why != api.OK {
			t.Fatalf("Crowd: %d, error %d, of %v", at, why, l)
		}
		if at := stale(t, o, classes, l); at != -1 {
			t.Fatalf("Stale: %d of %v, %v", at, classes, l)
		}
		for _, h := range hands(t, o, classes, l) {
			seen["hands"]++
			if h.Read != h.Last || l[h.At].Core != h.Core || classes[h.Thing].Kind != api.ClassGuarded {
				t.Fatal(h, "of", l)
			}
			if h.Last != o.Memory[h.Thing] {
				seen["written"]++
			}
		}
		last := map[int]api.Block{}
		for _, b := range blocks(t, o, l) {
			ahead, is := last[b.Lock]
			if is && (ahead.To < 0 || ahead.To > b.From) {
				t.Fatal(ahead, b, "overlap")
			}
			if is && ahead.Core != b.Core {
				seen["turns"]++
			}
			if b.To >= 0 && (b.Left < 0 || b.Left > b.To) || b.Left >= 0 && b.Left < b.From {
				t.Fatal(b)
			}
			if b.To > b.Left+1 {
				seen["waits"]++ // something was done between
			}
			last[b.Lock] = b
		}
	}
	if seen["hands"] < 2000 || seen["written"] < 500 || seen["turns"] < 1000 || seen["waits"] < 1000 {
		t.Error(seen)
	}
}

// Without locks in the code there are such runs: what the laws say is not empty.
func TestBroken(t *testing.T) {
	u := unit(t, "shared g; lock l; thread a { lock l { g = g + 1; } } thread b { local r; lock l { g = g + 1; } }")
	o := made(t, u, 3)
	for core := range o.Cores {
		code := o.Cores[core].Code
		for at := range code {
			if code[at].Kind == api.InstrZero { // an exchange that finds 1 lets in, too
				code[at] = api.Instr{Kind: api.InstrJump, To: at + 2}
			}
		}
	}
	r := rand.New(rand.NewPCG(23, 40))
	found := 0
	for range 300 {
		if at := stale(t, o, classesOf(t, u), anyRun(t, r, o, 60)); at >= 0 {
			found++
		}
	}
	if found < 50 {
		t.Error(found)
	}
}

// answers is all that the package tells of a run.
func answers(o api.Object, classes []api.Class, l []api.Did) string {
	b, w1 := monitor.Blocks(o, l)
	h, w2 := monitor.Holders(o, l)
	c, w3 := monitor.Crowd(o, l)
	d, w4 := monitor.Hands(o, classes, l)
	s, w5 := monitor.Stale(o, classes, l)
	return fmt.Sprint(b, w1, h, w2, c, w3, d, w4, s, w5)
}

// 23.3: answers are new memory; what is handed in is neither changed nor kept.
func TestNewMemory(t *testing.T) {
	r := rand.New(rand.NewPCG(23, 3))
	for range 500 {
		o := anyObject(r)
		classes, l := anyClasses(r, o), anyDids(r, o)
		given, want := fmt.Sprint(o, classes, l), answers(o, classes, l)
		b, h := blocks(t, o, l), hands(t, o, classes, l)
		holders, _ := monitor.Holders(o, l)
		kept := fmt.Sprint(h, holders)
		clear(b[:cap(b)])
		if fmt.Sprint(h, holders) != kept {
			t.Fatal("two answers are one")
		}
		clear(h[:cap(h)])
		clear(holders[:cap(holders)])
		if fmt.Sprint(o, classes, l) != given || answers(o, classes, l) != want {
			t.Fatal("an answer is another one's")
		}
		b, h = blocks(t, o, l), hands(t, o, classes, l)
		holders, _ = monitor.Holders(o, l)
		kept = fmt.Sprint(b, h, holders)
		clear(o.Memory)
		clear(classes)
		clear(l)
		if fmt.Sprint(b, h, holders) != kept {
			t.Fatal("what is handed in is kept")
		}
	}
}

// P3, P4: the same answers at each time, and to many that ask at one time; no goroutine is left.
func TestAlways(t *testing.T) {
	before := runtime.NumGoroutine()
	r := rand.New(rand.NewPCG(23, 30))
	for range 40 {
		o := anyObject(r)
		classes, l := anyClasses(r, o), anyDids(r, o)
		want := answers(o, classes, l)
		done := make(chan string)
		for range 6 {
			go func() { done <- answers(o, classes, l) }()
		}
		for range 6 {
			if <-done != want {
				t.Error("two answers to one question")
			}
		}
	}
	for range 1000 {
		if runtime.NumGoroutine() <= before {
			return
		}
		time.Sleep(time.Millisecond)
	}
	t.Error("goroutines are left")
}
