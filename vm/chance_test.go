package vm_test

import (
	"fmt"
	"math/rand/v2"
	"runtime"
	"slices"
	"strings"
	"testing"
	"time"

	"stile/api"
	"stile/target"
	"stile/vm"
	"stile/words"
)

// anyObject is a right object by chance: a few cores that go round over a few words, with much that stores and loads.
func anyObject(t *testing.T, r *rand.Rand) api.Object {
	t.Helper()
	o := api.Object{Buffer: 1 + r.IntN(4), Memory: []int64{7, -8, 9}[:1+r.IntN(3)]}
	if r.IntN(6) == 0 {
		o.Buffer = api.MaxBuffer
	}
	for core := range 1 + r.IntN(3) {
		size := 1 + r.IntN(14)
		c := api.Core{Name: string(rune('a' + core))}
		for range size {
			c.Code = append(c.Code, anyInstr(r, size, len(o.Memory)))
		}
		last := &c.Code[size-1]
		*last = api.Instr{Kind: api.InstrHalt}
		if r.IntN(3) > 0 {
			*last = api.Instr{Kind: api.InstrJump, To: r.IntN(size)}
		}
		o.Cores = append(o.Cores, c)
	}
	if why, core, at := target.Check(o); why != api.OK {
		t.Fatal("Check: error", why, core, at)
	}
	return o
}

func anyInstr(r *rand.Rand, code, memory int) api.Instr {
	reg := func() int { return r.IntN(4) }
	at := func() int { return r.IntN(memory) }
	i := api.Instr{From: r.IntN(9)}
	switch kind := r.IntN(24); {
	case kind < 3:
		i.Kind, i.D, i.Word = api.InstrSet, reg(), r.Int64N(90)-9
	case kind < 6:
		i.Kind, i.Op, i.D, i.A = api.InstrOp, api.Op(1+r.IntN(int(api.OpCount)-1)), reg(), reg()
		if words.Two(i.Op) {
			i.B = reg()
		}
	case kind < 10:
		i.Kind, i.D, i.Addr = api.InstrLoad, reg(), at()
	case kind < 16:
		i.Kind, i.A, i.Addr = api.InstrStore, reg(), at()
	case kind < 18:
		i.Kind, i.D, i.Addr = api.InstrSwap, reg(), at()
	case kind == 18:
		i.Kind = api.InstrFence
	case kind < 21:
		i.Kind, i.A = api.InstrPrint, reg()
	case kind == 21:
		i.Kind, i.To = api.InstrJump, r.IntN(code)
	case kind == 22:
		i.Kind, i.A, i.To = api.InstrZero, reg(), r.IntN(code)
	default:
		i.Kind = api.InstrHalt
	}
	return i
}

// anyStep is a step by chance: at times of no core, or none at all.
func anyStep(r *rand.Rand, cores int) api.Step {
	s := run(r.IntN(cores))
	if r.IntN(5) == 0 {
		s = drain(s.Core)
	}
	switch r.IntN(80) {
	case 0:
		s.Core = -1
	case 1:
		s.Core = cores
	case 2:
		s.Kind = api.StepNone
	case 3:
		s.Kind = api.StepCount
	}
	return s
}

// model is what the chapter says of a machine, read anew.
type model struct {
	o      api.Object
	memory map[int]int64
	cores  []api.CoreView
	said   string
}

func newModel(o api.Object) *model {
	x := &model{o: o, memory: map[int]int64{}, cores: make([]api.CoreView, len(o.Cores))}
	for at, w := range o.Memory {
		x.memory[at] = w
	}
	return x
}

func (x *model) fork() *model {
	y := newModel(x.o)
	for at, w := range x.memory {
		y.memory[at] = w
	}
	for core, v := range x.cores {
		v.Buffer = slices.Clone(v.Buffer)
		y.cores[core] = v
	}
	y.said = x.said
	return y
}

// step is what a step does, and what it answers.
func (x *model) step(s api.Step) (api.Did, api.Errno) {
	if s.Kind != api.StepRun && s.Kind != api.StepDrain {
		return api.Did{}, api.ErrWord
	}
	if s.Core < 0 || s.Core >= len(x.cores) {
		return api.Did{}, api.ErrCore
	}
	v := &x.cores[s.Core]
	if s.Kind == api.StepRun {
		return x.run(s.Core, v)
	}
	if len(v.Buffer) == 0 {
		return api.Did{}, api.OK
	}
	oldest := v.Buffer[0]
	v.Buffer = slices.Delete(v.Buffer, 0, 1)
	x.memory[oldest.Addr] = oldest.Word
	return api.Did{Kind: api.DidDrain, Core: s.Core, At: oldest.At, Addr: oldest.Addr, Word: oldest.Word}, api.OK
}

func (x *model) run(core int, v *api.CoreView) (api.Did, api.Errno) {
	if v.Halted {
		return api.Did{}, api.OK
	}
	i := x.o.Cores[core].Code[v.At]
	switch i.Kind {
	case api.InstrStore:
		if len(v.Buffer) == x.o.Buffer {
			return api.Did{}, api.ErrStall
		}
	case api.InstrSwap, api.InstrFence, api.InstrPrint:
		if len(v.Buffer) > 0 {
			return api.Did{}, api.ErrStall
		}
	}
	d := api.Did{Core: core, At: v.At}
	switch i.Kind {
	case api.InstrJump:
		d.Kind, v.At = api.DidCompute, i.To
	case api.InstrZero:
		d.Kind = api.DidCompute
		if v.At++; v.Regs[i.A] == 0 {
			v.At = i.To
		}
	case api.InstrHalt:
		d.Kind, v.Halted = api.DidHalt, true
	default:
		x.do(i, v, &d)
		v.At++
	}
	return d, api.OK
}

// do does an instruction behind which the next one comes.
func (x *model) do(i api.Instr, v *api.CoreView, d *api.Did) {
	switch i.Kind {
	case api.InstrSet:
		d.Kind, v.Regs[i.D] = api.DidCompute, i.Word
	case api.InstrOp:
		w, why := words.Do(i.Op, v.Regs[i.A], v.Regs[i.B])
		if why != api.OK {
			w, _ = words.One(i.Op, v.Regs[i.A])
		}
		d.Kind, v.Regs[i.D] = api.DidCompute, w
	case api.InstrLoad:
		d.Kind, d.Addr, d.Word = api.DidLoad, i.Addr, x.memory[i.Addr]
		for _, s := range v.Buffer {
			if s.Addr == i.Addr {
				d.Own, d.Word = true, s.Word
			}
		}
		v.Regs[i.D] = d.Word
	case api.InstrStore:
		d.Kind, d.Addr, d.Word = api.DidStore, i.Addr, v.Regs[i.A]
		v.Buffer = append(v.Buffer, api.Store{At: v.At, Addr: i.Addr, Word: d.Word})
	case api.InstrSwap:
		d.Kind, d.Addr, d.Word, d.Put = api.DidSwap, i.Addr, x.memory[i.Addr], v.Regs[i.D]
		x.memory[i.Addr], v.Regs[i.D] = d.Put, d.Word
	case api.InstrFence:
		d.Kind = api.DidFence
	case api.InstrPrint:
		d.Kind, d.Word = api.DidPrint, v.Regs[i.A]
		x.said += fmt.Sprint(d.Core, ":", d.Word, ",")
	}
}

// ready are the steps that do something, and are not refused: each is tried on a fork.
func (x *model) ready() []api.Step {
	var l []api.Step
	for core := range x.cores {
		for _, s := range []api.Step{run(core), drain(core)} {
			if d, why := x.fork().step(s); why == api.OK && d.Kind != api.DidNothing {
				l = append(l, s)
			}
		}
	}
	return l
}

func (x *model) ended() bool {
	return !slices.ContainsFunc(x.cores, func(v api.CoreView) bool { return !v.Halted || len(v.Buffer) > 0 })
}

// against holds that a machine stands as its model does.
func against(t *testing.T, m *vm.Machine, x *model) {
	t.Helper()
	for core, want := range x.cores {
		v, why := m.View(core)
		if why != api.OK || v.At != want.At || v.Halted != want.Halted || v.Regs != want.Regs || !slices.Equal(v.Buffer, want.Buffer) {
			t.Errorf("core %d: %v, error %d, not %v", core, v, why, want)
		}
	}
	memory, prints := m.Memory(), ""
	for at, w := range memory {
		if x.memory[at] != w {
			t.Error("at", at, w, "not", x.memory[at])
		}
	}
	for _, p := range m.Prints() {
		prints += fmt.Sprint(p.Thread, ":", p.Word, ",")
	}
	if len(memory) != len(x.memory) || prints != x.said || m.Cores() != len(x.cores) || m.Ended() != x.ended() || !slices.Equal(m.Ready(), x.ready()) {
		t.Error(memory, prints, m.Cores(), m.Ended(), m.Ready(), "not", x.said, x.ended(), x.ready())
	}
}

// P18.1 to P18.4: machines and their forks, stepped by chance, each held against a model of its own.
func TestAgainstModel(t *testing.T) {
	r := rand.New(rand.NewPCG(18, 1))
	seen := map[string]int{}
	for range 1500 {
		o := anyObject(t, r)
		machines, models := []*vm.Machine{ahead(t, o)}, []*model{newModel(o)}
		var l []api.Step
		var dids []api.Did
		var errs []api.Errno
		for range 80 {
			n := r.IntN(len(machines))
			m, x := machines[n], models[n]
			if r.IntN(20) == 0 && len(machines) < 4 {
				machines, models = append(machines, m.Fork()), append(models, x.fork())
				continue
			}
			s := anyStep(r, len(o.Cores))
			want, whyWant := x.step(s)
			d, why := m.Step(s)
			if d != want || why != whyWant {
				t.Errorf("Step(%v): %v, error %d, not %v, %d", s, d, why, want, whyWant)
			}
			if n == 0 {
				l, dids, errs = append(l, s), append(dids, d), append(errs, why)
			}
			seen[fmt.Sprint("error ", why)]++
			seen[fmt.Sprint("kind ", d.Kind)]++
			seen[fmt.Sprint("own ", d.Own)]++
			for n := range machines {
				against(t, machines[n], models[n])
			}
			if t.Failed() {
				text, _ := target.Print(o)
				t.Fatal(l, text)
			}
		}
		seen[fmt.Sprint("ended ", machines[0].Ended())]++
		if d, e, why := vm.Play(o, l); !slices.Equal(d, dids) || !slices.Equal(e, errs) || why != api.OK {
			t.Fatal("Play:", d, e, "error", why, "not", dids, errs)
		}
	}
	for _, what := range strings.Split("error 0,error 180,error 181,error 182,kind 0,kind 1,kind 2,kind 3,kind 4,kind 5,kind 6,kind 7,kind 8,own true,ended true,ended false", ",") {
		if seen[what] < 100 {
			t.Error("only", seen[what], "times", what)
		}
	}
}

// P18.6, P18.10: what a step may change, by what it says that it did; and if not all is ended, some step is ready.
func TestLocal(t *testing.T) {
	r := rand.New(rand.NewPCG(18, 6))
	changed := map[string]int{}
	for range 2000 {
		o := anyObject(t, r)
		m := ahead(t, o)
		for range 60 {
			was, memory, prints := stands(m), m.Memory(), m.Prints()
			others := func(core int) string {
				s := ""
				for n := range m.Cores() {
					if v, _ := m.View(n); n != core {
						s += fmt.Sprint(v)
					}
				}
				return s
			}
			s := anyStep(r, len(o.Cores))
			aside := others(s.Core)
			isReady := slices.Contains(m.Ready(), s)
			d, why := m.Step(s)
			switch why {
			case api.OK, api.ErrStall, api.ErrCore, api.ErrWord:
			default:
				t.Fatal("error", why)
			}
			if did := d.Kind != api.DidNothing; did != isReady || !did && (d != (api.Did{}) || stands(m) != was) || others(s.Core) != aside {
				t.Fatal(s, d, why, isReady, stands(m), was)
			}
			if d.Kind == api.DidSwap || d.Kind == api.DidDrain {
				memory[d.Addr] = d.Word
				if d.Kind == api.DidSwap {
					memory[d.Addr] = d.Put
				}
				changed["memory"]++
			}
			if d.Kind == api.DidPrint {
				prints = append(prints, api.Print{Thread: d.Core, Word: d.Word})
				changed["prints"]++
			}
			if !slices.Equal(m.Memory(), memory) || !slices.Equal(m.Prints(), prints) {
				t.Fatal(s, d, m.Memory(), m.Prints(), "not", memory, prints)
			}
			if !m.Ended() && len(m.Ready()) == 0 || m.Ended() && len(m.Ready()) > 0 {
				t.Fatal("ended:", m.Ended(), "ready:", m.Ready())
			}
		}
	}
	if changed["memory"] < 5000 || changed["prints"] < 1000 {
		t.Error(changed)
	}
}

// P18.7, P18.8: stores go to memory in their order, each once; a load sees its core's own latest store that waits, else what went there last.
func TestOrder(t *testing.T) {
	r := rand.New(rand.NewPCG(18, 7))
	own, others := 0, 0
	for range 3000 {
		o := anyObject(t, r)
		m := ahead(t, o)
		last := slices.Clone(o.Memory)
		waits := make([][]api.Did, len(o.Cores))
		for range 100 {
			d, _ := m.Step(anyStep(r, len(o.Cores)))
			l := waits[d.Core]
			switch d.Kind {
			case api.DidStore:
				waits[d.Core] = append(l, d)
			case api.DidDrain:
				first := l[0]
				first.Kind = api.DidDrain
				if d != first {
					t.Fatal(d, "has gone to memory, not", first)
				}
				waits[d.Core], last[d.Addr] = l[1:], d.Word
			case api.DidSwap:
				if len(l) > 0 || d.Word != last[d.Addr] {
					t.Fatal(d, l, last)
				}
				last[d.Addr] = d.Put
			case api.DidFence, api.DidPrint:
				if len(l) > 0 {
					t.Fatal(d, "while there wait", l)
				}
			case api.DidLoad:
				want, isOwn := last[d.Addr], false
				for _, s := range l {
					if s.Addr == d.Addr {
						want, isOwn = s.Word, true
					}
				}
				if d.Word != want || d.Own != isOwn {
					t.Fatal(d, "not", want, isOwn)
				}
				if isOwn && want != last[d.Addr] {
					own++
				} else if !isOwn {
					others++
				}
			}
			if len(waits[d.Core]) > o.Buffer {
				t.Fatal("more stores wait than may:", waits)
			}
		}
	}
	if own < 500 || others < 5000 {
		t.Error(own, others)
	}
}

// P18.9: if each store is drained right behind it, each load sees what was stored last.
func TestAtOnce(t *testing.T) {
	r := rand.New(rand.NewPCG(18, 9))
	loads := 0
	for range 2000 {
		o := anyObject(t, r)
		m := ahead(t, o)
		last := slices.Clone(o.Memory)
		for range 60 {
			d, why := m.Run(r.IntN(len(o.Cores)))
			if why != api.OK {
				t.Fatal("error", why)
			}
			switch d.Kind {
			case api.DidStore:
				last[d.Addr] = d.Word
				if gone, why := m.Drain(d.Core); gone.Word != d.Word || why != api.OK {
					t.Fatal(d, gone, "error", why)
				}
			case api.DidSwap:
				last[d.Addr] = d.Put
			case api.DidLoad:
				loads++
				if d.Word != last[d.Addr] || d.Own {
					t.Fatal(d, "not", last)
				}
			}
			if !slices.Equal(m.Memory(), last) {
				t.Fatal(m.Memory(), "not", last)
			}
		}
	}
	if loads < 5000 {
		t.Error(loads)
	}
}

// P18.5: answers are new memory, in all their lists; what is handed in is neither changed nor kept; forks share nothing that changes.
func TestNewMemory(t *testing.T) {
	r := rand.New(rand.NewPCG(18, 5))
	for range 300 {
		o := anyObject(t, r)
		given := fmt.Sprint(o)
		m := ahead(t, o)
		var l []api.Step
		for range 40 {
			l = append(l, anyStep(r, len(o.Cores)))
		}
		for _, s := range l {
			m.Step(s)
		}
		steps := fmt.Sprint(l)
		vm.Play(o, l)
		if fmt.Sprint(o) != given || fmt.Sprint(l) != steps {
			t.Fatal("what was handed in is changed")
		}
		was := stands(m)
		for core := range m.Cores() {
			v, _ := m.View(core)
			clear(v.Buffer[:cap(v.Buffer)])
			_ = append(v.Buffer, api.Store{At: 9})
		}
		clear(m.Memory())
		clear(m.Ready())
		clear(m.Prints())
		if is := stands(m); is != was {
			t.Fatalf("an answer is the machine's own: %s, not %s", is, was)
		}
		// What comes of the same steps, whatever was done with the object, the answers or the forks.
		f, g := m.Fork(), m.Fork()
		f.Fork().Fork()
		want := ahead(t, o)
		for _, s := range l {
			want.Step(s)
		}
		for n := range o.Cores {
			clear(o.Cores[n].Code)
		}
		clear(o.Memory)
		clear(o.Cores)
		for _, s := range l {
			f.Step(s)
		}
		if is := stands(m) + stands(g); is != was+was {
			t.Fatalf("a fork has changed another machine: %s, not %s twice", is, was)
		}
		for _, s := range l {
			g.Step(s)
			want.Step(s)
			m.Step(s)
		}
		if is := stands(want); stands(f) != is || stands(g) != is || stands(m) != is {
			t.Fatalf("%s, %s, %s, not %s", stands(f), stands(g), stands(m), is)
		}
	}
}

// P3, P4: the same answers at each time, and from forks of one machine at one time; no goroutine is left.
func TestAlways(t *testing.T) {
	before := runtime.NumGoroutine()
	r := rand.New(rand.NewPCG(18, 3))
	for range 40 {
		m := ahead(t, anyObject(t, r))
		steps := func(m *vm.Machine, seed uint64) string {
			r := rand.New(rand.NewPCG(seed, 1))
			all := ""
			for range 100 {
				d, why := m.Step(anyStep(r, m.Cores()))
				all += fmt.Sprint(d, why)
			}
			return all + stands(m)
		}
		steps(m, 1)
		done := make(chan string)
		for range 6 {
			f := m.Fork()
			go func() { done <- steps(f, 2) }()
		}
		want := steps(m, 2)
		for range 6 {
			if <-done != want {
				t.Error("two answers to one question")
			}
		}
	}
	for range 1000 {
		if runtime.NumGoroutine() <= before {
			return
		}
		time.Sleep(time.Millisecond)
	}
	t.Error("goroutines are left")
}

// P1: the greatest object; and a fork for each of many steps that print.
func TestGreat(t *testing.T) {
	o := api.Object{Memory: make([]int64, api.MaxMemory), Buffer: api.MaxBuffer}
	for n := range api.MaxThreads {
		code := slices.Repeat([]api.Instr{{Kind: api.InstrStore, A: 15, Addr: api.MaxMemory - 1}, {Kind: api.InstrLoad, D: 15, Addr: n}}, api.MaxCode/2)
		code[api.MaxCode-1] = api.Instr{Kind: api.InstrHalt}
		o.Cores = append(o.Cores, api.Core{Name: string(rune('a' + n)), Code: code})
	}
	m := ahead(t, o)
	for core := range api.MaxThreads {
		for range api.MaxCode {
			if _, why := m.Run(core); why == api.ErrStall {
				m.Drain(core)
				m.Run(core)
			}
		}
	}
	for core := range api.MaxThreads {
		v, _ := m.View(core)
		if len(v.Buffer) != api.MaxBuffer || !v.Halted || v.At != api.MaxCode-1 {
			t.Error(core, len(v.Buffer), v.Halted, v.At)
		}
	}
	p := machine(t, "object 0 0 1\nmemory\ncore a\nprint r0\njump 0\n")
	var forks []*vm.Machine
	for range api.MaxStates {
		p = p.Fork()
		runs(t, p, 0, 1)
		forks = append(forks, p)
	}
	for _, n := range []int{0, 1, 2, 3, api.MaxStates - 1} {
		if l := forks[n].Prints(); len(l) != n/2+1 {
			t.Error(n, len(l))
		}
	}
}
