package witness_test

import (
	"fmt"
	"math/rand/v2"
	"runtime"
	"slices"
	"testing"
	"time"

	"stile/api"
	"stile/cfg"
	"stile/delay"
	"stile/fences"
	"stile/fold"
	"stile/gen"
	"stile/regs"
	"stile/source"
	"stile/trace"
	"stile/vm"
	"stile/witness"
)

// grown are statements by chance: of racy x and y, of p, which one thread alone touches, of g, which is touched under the lock l alone, mostly.
func grown(r *rand.Rand, own string, wide int, locked bool) string {
	pick := func(l ...string) string { return l[r.IntN(len(l))] }
	value := func() string {
		if locked && r.IntN(3) == 0 {
			return "g"
		}
		return pick("x", "y", own, "r", "s", "1", "2", "0")
	}
	said := func() string { return pick(value(), value(), value()+pick(" + ", " - ", " == ", " < ")+value()) }
	s := ""
	for range 1 + r.IntN(4) {
		kind := r.IntN(12)
		if wide == 0 {
			kind = 3 + r.IntN(9)
		}
		switch kind {
		case 0:
			s += "if (" + said() + ") {" + grown(r, own, wide-1, locked) + "} else {" + pick("", grown(r, own, wide-1, locked)) + "} "
		case 1:
			s += "s = " + pick("1", "2", "3") + "; while (s > 0) {" + grown(r, own, wide-1, locked) + " s = s - 1; } "
		case 2:
			lock := "l"
			if locked {
				lock = "m"
			}
			s += "lock " + lock + " {" + grown(r, own, wide-1, true) + pick("", "g = g + 1; ", "g = r; ") + "} "
		case 3:
			s += pick("r", "x", own) + " = swap(" + pick("x", "y", own) + ", " + said() + "); "
		case 4:
			s += "print " + said() + "; "
		case 5, 6:
			s += pick("x = 1; r = y; ", "y = 2; r = x; ", "x = r; s = y; ", "skip; ")
		default:
			s += pick("x", "y", own, "r", "r") + " = " + said() + "; "
		}
	}
	return s
}

func grownUnit(t *testing.T, r *rand.Rand) api.Unit {
	t.Helper()
	s := "shared x, y = 3, p, q = -1, g, k; lock l, m; "
	for thread := range 1 + r.IntN(3) {
		own := []string{"p", "q", "k"}[thread]
		s += "thread " + string(rune('a'+thread)) + " { local r, s; " + grown(r, own, 2, false) + "} "
	}
	return unit(t, s)
}

// anyUnit is a unit by chance, at times such as no program has: links lead elsewhere, nodes are not reached.
func anyUnit(t *testing.T, r *rand.Rand) api.Unit {
	t.Helper()
	u := grownUnit(t, r)
	for range r.IntN(2) * r.IntN(6) {
		nodes := u.Graphs[r.IntN(len(u.Graphs))].Nodes
		n := &nodes[r.IntN(len(nodes))]
		was := *n
		switch {
		case n.Kind == api.NodeEnd:
		case n.Kind == api.NodeBranch && r.IntN(2) == 0:
			n.Else = r.IntN(len(nodes))
		default:
			n.Next = r.IntN(len(nodes))
		}
		if why, _, _ := cfg.Check(u); why != api.OK {
			*n = was
		}
	}
	return u
}

// safeFences are those that are needed, or one ahead of each such load, or more than that.
func safeFences(t *testing.T, r *rand.Rand, u api.Unit) [][]int {
	t.Helper()
	l, why := fences.Place(u, r.IntN(2) == 0)
	if why != api.OK {
		t.Fatal("Place: error", why)
	}
	for thread, g := range u.Graphs {
		for range r.IntN(2) * r.IntN(4) {
			l[thread] = append(l[thread], r.IntN(len(g.Nodes)))
		}
		slices.Sort(l[thread])
		l[thread] = slices.Compact(l[thread])
	}
	if is, why := delay.Safe(u, l); !is || why != api.OK {
		t.Fatal("Safe:", is, why)
	}
	return l
}

func someObject(t *testing.T, r *rand.Rand, u api.Unit, where [][]int) api.Object {
	t.Helper()
	places, why := regs.Assign(u, r.IntN(2) == 0)
	if why != api.OK {
		t.Fatal("Assign: error", why)
	}
	for thread := range places {
		places[thread].Cells += r.IntN(2)
	}
	o, why := gen.Generate(u, where, places, []int{1, 2, 4, api.MaxBuffer}[r.IntN(4)])
	if why != api.OK {
		t.Fatal("Generate: error", why)
	}
	return o
}

// anyRun is a run by chance, till all is ended or there were so many steps: now one core goes on for a while, now all do; buffers drain early or late.
func anyRun(t *testing.T, r *rand.Rand, o api.Object, most int) []api.Did {
	t.Helper()
	m, why := vm.New(o)
	if why != api.OK {
		t.Fatal("New: error", why)
	}
	lazy, fair := 2+r.IntN(12), 1+r.IntN(6)
	var steps []api.Step
	core := 0
	for range most {
		if m.Ended() {
			break
		}
		if r.IntN(fair) == 0 {
			core = r.IntN(len(o.Cores))
		}
		s := api.Step{Kind: api.StepRun, Core: core}
		if r.IntN(lazy) == 0 {
			s = api.Step{Kind: api.StepDrain, Core: r.IntN(len(o.Cores))}
		}
		m.Step(s)
		steps = append(steps, s)
	}
	l, why := trace.Of(o, steps)
	if why != api.OK {
		t.Fatal("Of: error", why)
	}
	return l
}

// replayed holds that a story's steps, run one by one, come to it.
func replayed(t *testing.T, u api.Unit, s api.Story) {
	t.Helper()
	m, why := source.New(u)
	if why != api.OK {
		t.Fatal("New: error", why)
	}
	if n, why := m.Run(s.Steps); n != len(s.Steps) || why != api.OK {
		t.Fatal("Run:", n, "of", len(s.Steps), "error", why)
	}
	if !slices.Equal(m.Prints(), s.Prints) || !slices.Equal(m.Memory(), s.Memory) || m.Ended() != s.Ended {
		t.Fatal("a story's steps come to", m.Prints(), m.Memory(), m.Ended(), "not to", s)
	}
}

// front is the run of a run's first Dids.
func front(t *testing.T, r *rand.Rand, u api.Unit, o api.Object, classes []api.Class, l []api.Did, s api.Story) {
	t.Helper()
	first := l[:r.IntN(len(l)+1)]
	whole, part := order(t, o, classes, l), order(t, o, classes, first)
	if !slices.Equal(part, whole[:len(part)]) {
		t.Fatal(part, "is no front of", whole)
	}
	f, why := witness.Explain(u, o, classes, first, 1000)
	if why != api.OK || len(f.Prints) > len(s.Prints) || !slices.Equal(f.Prints, s.Prints[:len(f.Prints)]) {
		t.Fatal(f.Prints, "error", why, "is no front of", s.Prints)
	}
}

// hasEnded tells by the Dids themselves whether all cores have halted and nothing waits.
func hasEnded(o api.Object, l []api.Did) bool {
	halts, waits := map[int]int{}, 0
	for _, d := range l {
		switch d.Kind {
		case api.DidHalt:
			halts[d.Core]++
		case api.DidStore:
			waits++
		case api.DidDrain:
			waits--
		}
	}
	return len(halts) == len(o.Cores) && waits == 0
}

// 21.6 to 21.8: whatever the unit, its fences, its places, the buffers and the steps: the run is an interleaving, which prints the same, and leaves the same in the end; and so is each front.
func TestRuns(t *testing.T) {
	r := rand.New(rand.NewPCG(21, 6))
	seen := map[string]int{}
	for range 6000 {
		u := anyUnit(t, r)
		classes := classesOf(t, u)
		o := someObject(t, r, u, safeFences(t, r, u))
		l := anyRun(t, r, o, 400)
		s, why := witness.Explain(u, o, classes, l, 1000)
		is, no := witness.Agrees(u, o, classes, l, 1000)
		if why != api.OK || no != api.OK || !is {
			text, _ := cfg.Print(u)
			run, _ := trace.Print(l)
			t.Fatalf("%v, error %d, %v, error %d, of\n%s\n%s", s, why, is, no, text, run)
		}
		if hasEnded(o, l) {
			seen["ended"]++
			if !s.Ended {
				t.Fatal("a run has ended, but not its story")
			}
		}
		seen["prints"] += min(1, len(s.Prints))
		seen["steps"] += len(s.Steps)
		replayed(t, u, s)
		front(t, r, u, o, classes, l, s)
	}
	if seen["ended"] < 2000 || seen["prints"] < 2000 || seen["steps"] < 50000 {
		t.Error(seen)
	}
}

// 21.6 needs fences: without them some runs are no interleaving.
func TestNoFences(t *testing.T) {
	r := rand.New(rand.NewPCG(21, 60))
	others, impossible := 0, 0
	for range 4000 {
		u := grownUnit(t, r)
		o := someObject(t, r, u, make([][]int, len(u.Graphs)))
		is, why := witness.Agrees(u, o, classesOf(t, u), anyRun(t, r, o, 400), 1000)
		switch {
		case why == api.ErrStory:
			impossible++
		case !is:
			others++
		}
	}
	if others < 50 || impossible < 5 {
		t.Error(others, impossible)
	}
}

// 21.9: of a folded unit the source may be the unit as it was.
func TestFolded(t *testing.T) {
	r := rand.New(rand.NewPCG(21, 9))
	ended, changed := 0, 0
	for range 3000 {
		u := anyUnit(t, r)
		f, times, why := fold.Fix(u)
		if why != api.OK {
			t.Fatal("Fix: error", why)
		}
		changed += min(1, times)
		classes := classesOf(t, f)
		o := someObject(t, r, f, safeFences(t, r, f))
		l := anyRun(t, r, o, 400)
		for _, x := range []api.Unit{u, f} {
			s, why := witness.Explain(x, o, classes, l, 1000)
			is, no := witness.Agrees(x, o, classes, l, 1000)
			if why != api.OK || no != api.OK || !is {
				t.Fatal(s, why, is, no)
			}
			replayed(t, x, s)
		}
		if hasEnded(o, l) {
			ended++
		}
	}
	if ended < 1000 || changed < 1000 {
		t.Error(ended, changed)
	}
}

// teller is what the chapter says of a source that follows an order, read anew: action by action.
type teller struct {
	u       api.Unit
	m       *source.Machine
	classes []api.Class
	most    int
	steps   []int
}

func (x *teller) node(thread int) api.Node { return x.u.Graphs[thread].Nodes[x.m.At(thread)] }

func (x *teller) ended(thread int) bool { return x.node(thread).Kind == api.NodeEnd }

func (x *teller) advance(thread int) bool {
	if thread < 0 || thread >= len(x.u.Graphs) || x.ended(thread) {
		return false
	}
	for count := 0; !x.ended(thread); {
		n := x.node(thread)
		count++
		if count > x.most || !x.m.Can(thread) {
			return false
		}
		x.m.Step(thread)
		x.steps = append(x.steps, thread)
		isRacy := n.Kind == api.NodeLoad || n.Kind == api.NodeStore || n.Kind == api.NodeSwap
		if n.Kind == api.NodeLock || n.Kind == api.NodeUnlock || n.Kind == api.NodePrint || isRacy && x.classes[n.Thing].Kind == api.ClassRacy {
			break
		}
	}
	return true
}

// explained is what the chapter says of any Dids that are right: the order, the story, whether it agrees; the last two only where there is a story.
func explained(u api.Unit, o api.Object, classes []api.Class, l []api.Did, most int) ([]int, string, bool) {
	m, _ := source.New(u)
	x := &teller{u, m, classes, most, nil}
	var order, halts []int
	var prints []api.Print
	memory := slices.Clone(o.Memory[:o.Shared])
	waits := map[int]int{}
	for _, d := range l {
		isVariable, isLock := d.Addr < o.Shared, d.Addr >= o.Shared && d.Addr < o.Shared+o.Locks
		isRacy := isVariable && classes[d.Addr].Kind == api.ClassRacy
		isVisible := false
		switch d.Kind {
		case api.DidLoad:
			isVisible = isRacy
		case api.DidStore:
			waits[d.Core]++
		case api.DidDrain:
			waits[d.Core]--
			isVisible = isRacy || isLock && d.Word == 0
			if isVariable {
				memory[d.Addr] = d.Word
			}
		case api.DidSwap:
			isVisible = isRacy || isLock && d.Word == 0 && d.Put != 0
			if isVariable {
				memory[d.Addr] = d.Put
			}
		case api.DidPrint:
			isVisible = true
			prints = append(prints, api.Print{Thread: d.Core, Word: d.Word})
		case api.DidHalt:
			halts = append(halts, d.Core)
		}
		if isVisible {
			order = append(order, d.Core)
		}
	}
	if len(u.Graphs) != len(o.Cores) {
		return order, "", false
	}
	for _, thread := range order {
		if !x.advance(thread) {
			return order, "", false
		}
	}
	for _, thread := range halts {
		if thread < len(u.Graphs) && waits[thread] == 0 && !x.ended(thread) && !(x.advance(thread) && x.ended(thread)) {
			return order, "", false
		}
	}
	is := slices.Equal(prints, m.Prints())
	all := true
	for thread := range u.Graphs {
		all = all && slices.Contains(halts, thread) && waits[thread] == 0
	}
	if all {
		is = is && m.Ended() && slices.Equal(memory, m.Memory())
	}
	return order, fmt.Sprint(x.steps, m.Prints(), m.Memory(), m.Ended()), is
}

// spoil changes a few of a run's Dids: others are there, some lack, words are others.
func spoil(r *rand.Rand, o api.Object, l []api.Did) []api.Did {
	l = slices.Clone(l)
	for range r.IntN(4) {
		if len(l) == 0 {
			break
		}
		at := r.IntN(len(l))
		switch r.IntN(6) {
		case 0:
			l = slices.Delete(l, at, at+1)
		case 1:
			l = slices.Insert(l, at, api.Did{Kind: api.DidHalt, Core: r.IntN(len(o.Cores) + 1)})
		case 2:
			l = slices.Insert(l, at, l[r.IntN(len(l))])
		case 3:
			l = l[:at]
		case 4:
			if k := l[at].Kind; k == api.DidPrint || k == api.DidDrain || k == api.DidLoad {
				l[at].Word = r.Int64N(3)
			}
		default:
			l[at].Core = r.IntN(len(o.Cores))
		}
	}
	return l
}

// 21.1 to 21.4: units, classes, most and Dids that fit each other or do not, held against the chapter's words.
func TestAgainstWords(t *testing.T) {
	r := rand.New(rand.NewPCG(21, 4))
	seen := map[string]int{}
	for range 10000 {
		u := anyUnit(t, r)
		classes := classesOf(t, u)
		o := someObject(t, r, u, make([][]int, len(u.Graphs)))
		l := spoil(r, o, anyRun(t, r, o, 300))
		most := 1000
		switch r.IntN(6) {
		case 0:
			most = 1 + r.IntN(6)
		case 1:
			for thing := range classes {
				classes[thing].Kind = api.ClassKind(r.IntN(int(api.ClassCount)))
			}
		case 2:
			u = anyUnit(t, r)
		}
		threads, story, is := explained(u, o, classes, l, most)
		if got := order(t, o, classes, l); !slices.Equal(got, threads) {
			t.Fatal(got, "not", threads)
		}
		got, why := witness.Explain(u, o, classes, l, most)
		gotIs, no := witness.Agrees(u, o, classes, l, most)
		if story == "" {
			seen["none"]++
			untold(t, got, why, api.ErrStory)
			if gotIs || no != api.ErrStory {
				t.Fatal("Agrees:", gotIs, "error", no)
			}
			continue
		}
		told(t, got, why, story)
		if no != api.OK || gotIs != is {
			t.Fatal("Agrees:", gotIs, "error", no, "not", is)
		}
		seen[fmt.Sprint(is, hasEnded(o, l))]++
		f, why := witness.Follow(u, classes, threads, most)
		x := &teller{u, nil, classes, most, nil}
		x.m, _ = source.New(u)
		for _, thread := range threads {
			x.advance(thread)
		}
		told(t, f, why, fmt.Sprint(x.steps, x.m.Prints(), x.m.Memory(), x.m.Ended()))
	}
	for _, what := range []string{"none", "true true", "true false", "false true", "false false"} {
		if seen[what] < 100 {
			t.Error("only", seen[what], "times", what)
		}
	}
}

// answers is all that the package tells of a run.
func answers(u api.Unit, o api.Object, classes []api.Class, l []api.Did) string {
	threads, why := witness.Order(o, classes, l)
	f, no := witness.Follow(u, classes, threads, 1000)
	s, not := witness.Explain(u, o, classes, l, 1000)
	is, nor := witness.Agrees(u, o, classes, l, 1000)
	return fmt.Sprint(threads, why, f, no, s, not, is, nor)
}

// 21.5: answers are new memory, in all their lists; what is handed in is neither changed nor kept.
func TestNewMemory(t *testing.T) {
	r := rand.New(rand.NewPCG(21, 5))
	for range 400 {
		u := anyUnit(t, r)
		classes := classesOf(t, u)
		o := someObject(t, r, u, make([][]int, len(u.Graphs)))
		l := anyRun(t, r, o, 200)
		given, want := fmt.Sprint(u, o, classes, l), answers(u, o, classes, l)
		if fmt.Sprint(u, o, classes, l) != given {
			t.Fatal("what is handed in is changed")
		}
		threads := order(t, o, classes, l)
		f, _ := witness.Follow(u, classes, threads, 1000)
		s, _ := witness.Explain(u, o, classes, l, 1000)
		was := fmt.Sprint(threads)
		kept := fmt.Sprint(f, s)
		clear(threads[:cap(threads)])
		if fmt.Sprint(f, s) != kept {
			t.Fatal("what is handed in is kept, or two answers are one")
		}
		clear(s.Steps[:cap(s.Steps)])
		clear(s.Prints[:cap(s.Prints)])
		clear(s.Memory[:cap(s.Memory)])
		clear(f.Steps[:cap(f.Steps)])
		clear(f.Prints[:cap(f.Prints)])
		clear(f.Memory[:cap(f.Memory)])
		if again := order(t, o, classes, l); fmt.Sprint(again) != was || fmt.Sprint(u, o, classes, l) != given || answers(u, o, classes, l) != want {
			t.Fatal("an answer is another one's")
		}
		s, _ = witness.Explain(u, o, classes, l, 1000)
		kept = fmt.Sprint(s)
		clear(l)
		clear(classes)
		clear(o.Memory)
		clear(u.Shared)
		for _, g := range u.Graphs {
			clear(g.Nodes)
		}
		if fmt.Sprint(s) != kept {
			t.Fatal("what is handed in is kept")
		}
	}
}

// P3, P4: the same answers at each time, and to many that ask at one time; no goroutine is left.
func TestAlways(t *testing.T) {
	before := runtime.NumGoroutine()
	r := rand.New(rand.NewPCG(21, 3))
	for range 40 {
		u := anyUnit(t, r)
		classes := classesOf(t, u)
		o := someObject(t, r, u, make([][]int, len(u.Graphs)))
		l := anyRun(t, r, o, 200)
		want := answers(u, o, classes, l)
		done := make(chan string)
		for range 6 {
			go func() { done <- answers(u, o, classes, l) }()
		}
		for range 6 {
			if <-done != want {
				t.Error("two answers to one question")
			}
		}
	}
	for range 1000 {
		if runtime.NumGoroutine() <= before {
			return
		}
		time.Sleep(time.Millisecond)
	}
	t.Error("goroutines are left")
}
