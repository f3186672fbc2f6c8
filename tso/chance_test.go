package tso_test

import (
	"fmt"
	"math/rand/v2"
	"runtime"
	"slices"
	"strings"
	"testing"
	"time"

	"stile/api"
	"stile/cfg"
	"stile/explore"
	"stile/fences"
	"stile/gen"
	"stile/parse"
	"stile/regs"
	"stile/target"
	"stile/tso"
	"stile/vm"
)

// crossed is an object by chance of two cores, each of which stores, at times twice, and then loads, mostly what the other one stores.
func crossed(r *rand.Rand) api.Object {
	o := api.Object{Buffer: 1 + r.IntN(2), Memory: []int64{0, 0, 5}, Shared: 2}
	twice := r.IntN(4) == 0
	for core := range 2 {
		code := []api.Instr{{Kind: api.InstrSet, Word: 1}, {Kind: api.InstrStore, Addr: core}, {Kind: api.InstrLoad, D: 1, Addr: 1 - core}, {Kind: api.InstrPrint, A: 1}, {Kind: api.InstrHalt}}
		switch at := 1 + r.IntN(4); r.IntN(5) {
		case 0:
			code = slices.Insert(code, at, anyInstr(r, len(code), len(o.Memory)))
		case 1:
			code = slices.Delete(code, 3, 4)
		case 2:
			code[3] = api.Instr{Kind: api.InstrStore, A: 1, Addr: r.IntN(3)}
		}
		if twice {
			code = slices.Insert(code, 2, api.Instr{Kind: api.InstrStore, Addr: 2})
		}
		o.Cores = append(o.Cores, api.Core{Name: string(rune('a' + core)), Code: code})
	}
	return o
}

// anyObject is a right object by chance: a few cores of short code over a few words, with much that stores and loads.
func anyObject(t *testing.T, r *rand.Rand, cores int) api.Object {
	t.Helper()
	if cores == 2 && r.IntN(2) == 0 {
		return crossed(r)
	}
	o := api.Object{Buffer: 1 + r.IntN(3), Memory: []int64{0, 1, 2, 0, 0}[:1+r.IntN(5)]}
	o.Shared = r.IntN(len(o.Memory) + 1)
	o.Locks = r.IntN(len(o.Memory) - o.Shared + 1)
	for core := range cores {
		c := api.Core{Name: string(rune('a' + core))}
		size := 1 + r.IntN(6)
		for range size {
			c.Code = append(c.Code, anyInstr(r, size, len(o.Memory)))
		}
		c.Code[size-1] = api.Instr{Kind: api.InstrHalt}
		if r.IntN(8) == 0 {
			c.Code[size-1] = api.Instr{Kind: api.InstrJump, To: r.IntN(size)}
		}
		o.Cores = append(o.Cores, c)
	}
	if why, core, at := target.Check(o); why != api.OK {
		t.Fatal("Check: error", why, core, at)
	}
	return o
}

func anyInstr(r *rand.Rand, code, memory int) api.Instr {
	reg, addr := r.IntN(2), r.IntN(memory)
	switch r.IntN(14) {
	case 0, 1:
		return api.Instr{Kind: api.InstrSet, D: reg, Word: r.Int64N(3)}
	case 2:
		return api.Instr{Kind: api.InstrOp, Op: api.OpXor, D: reg, A: r.IntN(2), B: r.IntN(2)}
	case 3, 4:
		return api.Instr{Kind: api.InstrLoad, D: reg, Addr: addr}
	case 5, 6, 7, 8:
		return api.Instr{Kind: api.InstrStore, A: reg, Addr: addr}
	case 9:
		return api.Instr{Kind: api.InstrSwap, D: reg, Addr: addr}
	case 10, 11:
		return api.Instr{Kind: api.InstrPrint, A: reg}
	case 12:
		return api.Instr{Kind: api.InstrZero, A: reg, To: r.IntN(code)}
	}
	return api.Instr{Kind: []api.InstrKind{api.InstrFence, api.InstrHalt}[r.IntN(2)]}
}

// model is what the chapter says of an object, read anew: of each situation, by all that vm tells of it, the best schedule to it, and how it stands.
type model struct {
	best     map[string][]api.Step
	machines map[string]*vm.Machine
}

func stands(m *vm.Machine) string {
	s := fmt.Sprint(m.Memory(), m.Prints())
	for core := range m.Cores() {
		v, _ := m.View(core)
		s += fmt.Sprint(v)
	}
	return s
}

// before is how steps stand in Ready: core by core, runs ahead of drains. The better schedule is the shorter one; of these the one whose step stands first where they part.
func before(a, b api.Step) int {
	if a.Core != b.Core {
		return a.Core - b.Core
	}
	return int(a.Kind) - int(b.Kind)
}

func better(a, b []api.Step) bool {
	if len(a) != len(b) {
		return len(a) < len(b)
	}
	return slices.CompareFunc(a, b, before) < 0
}

// behind is a machine that has done a step; a plain one, with what it stores drained; none, if the step does nothing, or is no plain one.
func behind(m *vm.Machine, s api.Step, plain bool) *vm.Machine {
	f := m.Fork()
	d, why := f.Step(s)
	if why != api.OK || d == (api.Did{}) || plain && s.Kind == api.StepDrain {
		return nil
	}
	if plain && d.Kind == api.DidStore {
		f.Drain(s.Core)
	}
	return f
}

// modelOf goes on till no schedule gets better; false, if there are many situations.
func modelOf(o api.Object, plain bool, most int) (model, bool) {
	m, _ := vm.New(o)
	x := model{map[string][]api.Step{stands(m): nil}, map[string]*vm.Machine{stands(m): m}}
	todo := []string{stands(m)}
	for len(todo) > 0 {
		key := todo[0]
		todo = todo[1:]
		for core := range o.Cores {
			for _, s := range []api.Step{drain(core), run(core)} { // the other way round than in Ready: better schedules come later
				f := behind(x.machines[key], s, plain)
				if f == nil {
					continue
				}
				to, way := stands(f), append(slices.Clone(x.best[key]), s)
				if old, is := x.best[to]; !is || better(way, old) {
					x.best[to], x.machines[to] = way, f
					todo = append(todo, to)
				}
				if len(x.best) > most {
					return model{}, false
				}
			}
		}
	}
	return x, true
}

// ways is of each end, written, the best schedule to it.
func (x model) ways(shared int) map[string][]api.Step {
	l := map[string][]api.Step{}
	for key, m := range x.machines {
		if !m.Ended() {
			continue
		}
		s := shown(api.End{Prints: m.Prints(), Memory: m.Memory()[:shared], Ended: true})
		if old, is := l[s]; !is || better(x.best[key], old) {
			l[s] = x.best[key]
		}
	}
	return l
}

// inOrder holds that ends are those, each once, each ahead of the next one.
func inOrder(t *testing.T, l []api.End, want map[string][]api.Step) {
	t.Helper()
	for i, e := range l {
		if _, is := want[shown(e)]; !is || i > 0 && explore.Compare(l[i-1], e) != -1 {
			t.Error(shown(e), "is none, or not in its place:", shown(l...))
		}
	}
	if len(l) != len(want) {
		t.Errorf("%d ends, not %d", len(l), len(want))
	}
}

// P20.1 to P20.3, P20.6: objects by chance: Count, Ends, Plain, Weak, Way and Shows are what the chapter says.
func TestByChance(t *testing.T) {
	r := rand.New(rand.NewPCG(20, 1))
	seen := map[string]int{}
	for range 700 {
		o := anyObject(t, r, []int{1, 2, 2, 3}[r.IntN(4)])
		const most = 400
		x, few := modelOf(o, false, most)
		y, fewPlain := modelOf(o, true, most)
		if !few {
			wantPlain := api.OK
			if !fewPlain {
				wantPlain = api.ErrMany
			}
			refused(t, o, most, api.ErrMany, wantPlain)
			seen["many"]++
			continue
		}
		n := len(x.best)
		if got := count(t, o, n); got != n {
			t.Errorf("Count: %d, not %d", got, n)
		}
		if n > 1 {
			wantPlain := api.OK
			if len(y.best) == n {
				wantPlain = api.ErrMany
			}
			refused(t, o, n-1, api.ErrMany, wantPlain)
		}
		if l, why := tso.Plain(o, len(y.best)-1); len(y.best) > 1 && (l != nil || why != api.ErrMany) {
			t.Error("Plain:", shown(l...), why)
		}
		all, plain, weak := told(t, tso.Ends, o, n+r.IntN(2)), told(t, tso.Plain, o, len(y.best)), told(t, tso.Weak, o, n)
		want, wantPlain := x.ways(o.Shared), y.ways(o.Shared)
		inOrder(t, all, want)
		inOrder(t, plain, wantPlain)
		for s := range wantPlain {
			if _, is := want[s]; !is {
				t.Error(s, "is plain, but no end")
			}
			delete(want, s)
		}
		inOrder(t, weak, want)
		want = x.ways(o.Shared)
		for _, e := range all {
			way, ok, why := tso.Way(o, n, e)
			if !ok || why != api.OK || !slices.Equal(way, want[shown(e)]) {
				t.Error(shown(e), way, ok, why, "not", want[shown(e)])
			}
			goes(t, o, way, e)
		}
		showsModel(t, r, o, x)
		seen[fmt.Sprint("ends ", min(len(all), 3))]++
		seen[fmt.Sprint("weak ", min(len(weak), 2))]++
		if t.Failed() {
			s, _ := target.Print(o)
			t.Fatal(s)
		}
	}
	for _, what := range []string{"many", "ends 0", "ends 1", "ends 2", "ends 3", "weak 0", "weak 1", "weak 2"} {
		if seen[what] < 10 {
			t.Error(what, seen[what])
		}
	}
}

// showsModel asks for what some situation has printed, and for the like.
func showsModel(t *testing.T, r *rand.Rand, o api.Object, x model) {
	t.Helper()
	known := map[string]int{}
	var lists [][]api.Print
	for _, m := range x.machines {
		l := m.Prints()
		if known[fmt.Sprint(l)]++; known[fmt.Sprint(l)] == 1 {
			lists = append(lists, l)
		}
	}
	slices.SortFunc(lists, func(a, b []api.Print) int { return strings.Compare(fmt.Sprint(a), fmt.Sprint(b)) })
	for _, l := range lists[:min(len(lists), 6)] {
		other := append(slices.Clone(l), api.Print{Thread: r.IntN(3), Word: r.Int64N(3)})
		if r.IntN(2) == 0 {
			other[r.IntN(len(other))].Word++
		}
		for _, l := range [][]api.Print{l, other, l[min(1, len(l)):]} {
			if ok, why := tso.Shows(o, len(x.best), l); ok != (known[fmt.Sprint(l)] > 0) || why != api.OK {
				t.Errorf("Shows %v: %v, error %d", l, ok, why)
			}
		}
	}
}

// P20.5: whatever is played, what is printed by the way is shown; where all is ended, that is one of the ends.
func TestClosed(t *testing.T) {
	r := rand.New(rand.NewPCG(20, 5))
	over, prints := 0, 0
	for range 300 {
		o := anyObject(t, r, 2+r.IntN(2))
		l, why := tso.Ends(o, 3000)
		if why != api.OK {
			continue
		}
		for range 10 {
			m, _ := vm.New(o)
			shows := 0
			for range 120 {
				s := run(r.IntN(len(o.Cores) + 1))
				if r.IntN(3) == 0 {
					s.Kind = api.StepKind(r.IntN(int(api.StepCount) + 1))
				}
				m.Step(s)
				if p := m.Prints(); len(p) > shows {
					shows = len(p)
					prints++
					if ok, why := tso.Shows(o, 3000, p); !ok || why != api.OK {
						t.Fatal(p, "is not shown, error", why)
					}
				}
			}
			e := api.End{Prints: m.Prints(), Memory: m.Memory()[:o.Shared], Ended: true}
			if m.Ended() {
				over++
				if !slices.ContainsFunc(l, func(x api.End) bool { return explore.Same(x, e) }) {
					t.Fatal(shown(e), "is none of", shown(l...))
				}
			}
		}
	}
	if over < 1000 || prints < 500 {
		t.Error(over, prints)
	}
}

// P20.7: with a greater buffer no end is lost, and some are won.
func TestDeeper(t *testing.T) {
	r := rand.New(rand.NewPCG(20, 7))
	asked, won := 0, 0
	for range 800 {
		o := anyObject(t, r, 2)
		o.Buffer = 1
		l, why := tso.Ends(o, 3000)
		for why == api.OK && o.Buffer < 4 {
			o.Buffer++
			var more []api.End
			if more, why = tso.Ends(o, 3000); why != api.OK {
				break
			}
			for _, e := range l {
				if !slices.ContainsFunc(more, func(x api.End) bool { return explore.Same(x, e) }) {
					t.Fatal(shown(e), "is lost with", o.Buffer)
				}
			}
			asked++
			won += min(1, len(more)-len(l))
			l = more
		}
	}
	if asked < 1000 || won < 20 {
		t.Error(asked, won)
	}
}

// P20.8: with something that waits for an empty buffer, or halts, right behind each store no end is weak; without it, some are.
func TestDrained(t *testing.T) {
	r := rand.New(rand.NewPCG(20, 8))
	ends, weak := 0, 0
	for range 1500 {
		o := anyObject(t, r, 2)
		if l, why := tso.Weak(o, 3000); why == api.OK {
			weak += len(l)
		}
		for core := range o.Cores {
			var code []api.Instr
			var starts []int
			for _, i := range o.Cores[core].Code {
				starts = append(starts, len(code))
				code = append(code, i)
				if i.Kind == api.InstrStore {
					code = append(code, []api.Instr{
						{Kind: api.InstrFence}, {Kind: api.InstrSwap, Addr: r.IntN(len(o.Memory))}, {Kind: api.InstrPrint, A: 1}, {Kind: api.InstrHalt},
					}[r.IntN(4)])
				}
			}
			for at := range code {
				code[at].To = starts[min(code[at].To, len(starts)-1)]
			}
			o.Cores[core].Code = code
		}
		l, why := tso.Weak(o, 3000)
		if why == api.ErrMany {
			continue
		}
		if why != api.OK || len(l) != 0 {
			s, _ := target.Print(o)
			t.Fatal(shown(l...), why, s)
		}
		ends += len(told(t, tso.Ends, o, 3000))
	}
	if ends < 1500 || weak < 200 {
		t.Error(ends, weak)
	}
}

// P20.9: one core has one end at most, which is not weak.
func TestAlone(t *testing.T) {
	r := rand.New(rand.NewPCG(20, 9))
	seen := [2]int{}
	for range 2000 {
		o := anyObject(t, r, 1)
		o.Buffer = 1 + r.IntN(api.MaxBuffer)
		l, why := tso.Ends(o, 2000)
		if why == api.ErrMany {
			continue
		}
		if weak, no := tso.Weak(o, 2000); why != api.OK || no != api.OK || len(l) > 1 || len(weak) > 0 {
			t.Fatal(why, no, shown(l...), shown(weak...))
		}
		seen[len(l)]++
	}
	if seen[0] < 50 || seen[1] < 500 {
		t.Error(seen)
	}
}

// What is built of programs: with the fences that are needed it ends just as the source may end; without them nothing is lost, but some more may be.
func TestBuilt(t *testing.T) {
	for text, want := range map[string]int{ // how many ends are weak without fences
		"shared x, y; thread a { x = 1; print y; } thread b { y = 1; print x; }":                                                                  2,
		"shared x, y; thread a { x = 1; y = 1; } thread b { print y; print x; }":                                                                  0,
		"shared x, y; thread a { local r; r = x; y = 1; print r; } thread b { local r; r = y; x = 1; print r; }":                                  0,
		"shared g; lock l; thread a { lock l { g = g + 1; } } thread b { lock l { g = g + 1; } }":                                                 0,
		"shared x, y; thread a { local r; r = swap(x, 1); print y; } thread b { local r; r = swap(y, 1); print x; }":                              0,
		"shared x, y; thread a { local r; x = 1; r = x; print r; print y; } thread b { local r; y = 1; r = y; print r; print x; }":                0,
		"shared x, y; thread a { local r, s; x = 1; r = x; s = y; print r + s; } thread b { local r, s; y = 1; r = y; s = x; print r; print s; }": 3,
	} {
		p, why, f := parse.Parse(text)
		if why != api.OK {
			t.Fatal(text, why, f)
		}
		u, _ := cfg.Lower(p)
		places, _ := regs.Assign(u, true)
		source, why := explore.Ends(u, api.MaxStates)
		if why != api.OK {
			t.Fatal(text, why)
		}
		needed, _ := fences.Place(u, true)
		for buffer := 1; buffer < 3; buffer++ {
			ends := func(fences [][]int) []api.End {
				o, why := gen.Generate(u, fences, places, buffer)
				if why != api.OK {
					t.Fatal(text, why)
				}
				return told(t, tso.Ends, o, api.MaxStates)
			}
			if l := ends(needed); shown(l...) != shown(source...) {
				t.Errorf("%s: %s, not %s", text, shown(l...), shown(source...))
			}
			l := ends(make([][]int, len(u.Graphs)))
			for _, e := range source {
				if !slices.ContainsFunc(l, func(x api.End) bool { return explore.Same(x, e) }) {
					t.Error(text, shown(e), "is lost")
				}
			}
			if len(l)-len(source) != want {
				t.Errorf("%s: %d ends, not %d and %d: %s", text, len(l), len(source), want, shown(l...))
			}
		}
	}
}

// answers is all that the package tells of an object.
func answers(o api.Object, most int) string {
	n, why := tso.Count(o, most)
	l, no := tso.Ends(o, most)
	plain, not := tso.Plain(o, most)
	weak, nor := tso.Weak(o, most)
	s := fmt.Sprint(n, why, shown(l...), no, shown(plain...), not, shown(weak...), nor)
	for _, e := range l {
		way, ok, why := tso.Way(o, most, e)
		shows, no := tso.Shows(o, most, e.Prints)
		s += fmt.Sprint(way, ok, why, shows, no)
	}
	return s
}

// P20.4: answers are new memory, in all their lists; what is handed in is neither changed nor kept.
func TestNewMemory(t *testing.T) {
	r := rand.New(rand.NewPCG(20, 4))
	for _, o := range []api.Object{object(t, buffering), anyObject(t, r, 2), anyObject(t, r, 2), anyObject(t, r, 3), object(t, "object 2 0 1|memory 1 2 3|core a|halt|core b|store r0 1|halt|")} {
		given, want := fmt.Sprint(o), answers(o, 20000)
		for _, call := range []func(api.Object, int) ([]api.End, api.Errno){tso.Ends, tso.Plain, tso.Weak} {
			l, _ := call(o, 20000)
			for i := range l {
				// Of one end all is changed, also what it has room for: no other one is to have it.
				rest := shown(slices.Delete(slices.Clone(l), i, i+1)...)
				e := l[i]
				prints, way := slices.Clone(e.Prints), fmt.Sprint(shown(e))
				tso.Way(o, 20000, e)
				tso.Shows(o, 20000, e.Prints)
				if fmt.Sprint(shown(e)) != way || !slices.Equal(prints, e.Prints) {
					t.Fatal("what is handed in is changed")
				}
				clear(append(e.Prints, api.Print{Thread: 9})[:len(e.Prints)])
				for n := range e.Memory[:cap(e.Memory)] {
					e.Memory[:cap(e.Memory)][n] = 77
				}
				if cap(e.Memory) != len(e.Memory) {
					t.Error("room behind the variables")
				}
				if shown(slices.Delete(slices.Clone(l), i, i+1)...) != rest {
					t.Fatal("two ends share a list")
				}
			}
			clear(l[:cap(l)])
		}
		l, _ := tso.Ends(o, 20000)
		for _, e := range l {
			way, _, _ := tso.Way(o, 20000, e)
			clear(way[:cap(way)])
		}
		if fmt.Sprint(o) != given || answers(o, 20000) != want {
			t.Fatal("what is handed in is changed, or an answer is another one's")
		}
		told := shown(l...)
		clear(o.Memory)
		for i := range o.Cores {
			clear(o.Cores[i].Code)
		}
		if shown(l...) != told {
			t.Fatal("what is handed in is kept")
		}
	}
}

// P3, P4: the same answers at each time, and to many that ask at one time; no goroutine is left.
func TestAlways(t *testing.T) {
	before := runtime.NumGoroutine()
	r := rand.New(rand.NewPCG(20, 3))
	for range 25 {
		o := anyObject(t, r, 2)
		want := answers(o, 3000)
		done := make(chan string)
		for range 6 {
			go func() { done <- answers(o, 3000) }()
		}
		for range 6 {
			if <-done != want {
				t.Error("two answers to one question")
			}
		}
	}
	for range 1000 {
		if runtime.NumGoroutine() <= before {
			return
		}
		time.Sleep(time.Millisecond)
	}
	t.Error("goroutines are left")
}
