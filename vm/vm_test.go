package vm_test

import (
	"fmt"
	"math"
	"slices"
	"testing"

	"stile/api"
	"stile/target"
	"stile/vm"
	"stile/words"
)

// object is the right one of a text.
func object(t *testing.T, s string) api.Object {
	t.Helper()
	o, why, at := target.Parse(s)
	if why != api.OK {
		t.Fatalf("Parse(%q): error %d at %d", s, why, at)
	}
	return o
}

func ahead(t *testing.T, o api.Object) *vm.Machine {
	t.Helper()
	m, why := vm.New(o)
	if m == nil || why != api.OK {
		t.Fatalf("New(%.300s): error %d", fmt.Sprint(o), why)
	}
	return m
}

func machine(t *testing.T, s string) *vm.Machine {
	t.Helper()
	return ahead(t, object(t, s))
}

func run(core int) api.Step { return api.Step{Kind: api.StepRun, Core: core} }

func drain(core int) api.Step { return api.Step{Kind: api.StepDrain, Core: core} }

// did holds that a step does this.
func did(t *testing.T, m *vm.Machine, s api.Step, want api.Did) {
	t.Helper()
	if got, why := m.Step(s); got != want || why != api.OK {
		t.Errorf("Step(%v): %v, error %d, not %v", s, got, why, want)
	}
}

// runs does a core's next instructions, whatever they are.
func runs(t *testing.T, m *vm.Machine, core, times int) {
	t.Helper()
	for range times {
		if d, why := m.Run(core); why != api.OK || d == (api.Did{}) {
			t.Fatalf("Run(%d): %v, error %d", core, d, why)
		}
	}
}

// stands is all that a machine tells.
func stands(m *vm.Machine) string {
	s := fmt.Sprint(m.Memory(), m.Prints(), m.Ended(), m.Ready(), m.Cores())
	for core := range m.Cores() {
		v, why := m.View(core)
		s += fmt.Sprint(v, why)
	}
	return s
}

// refused holds that a step has an error, and that nothing is changed by it.
func refused(t *testing.T, m *vm.Machine, s api.Step, want api.Errno) {
	t.Helper()
	was := stands(m)
	if d, why := m.Step(s); why != want || d != (api.Did{}) {
		t.Errorf("Step(%v): %v, error %d, not %d", s, d, why, want)
	}
	if is := stands(m); is != was {
		t.Errorf("refused, it has done something: %s, not %s", is, was)
	}
}

// idle holds that a step does nothing.
func idle(t *testing.T, m *vm.Machine, s api.Step) {
	t.Helper()
	refused(t, m, s, api.OK)
}

const buffering = "object 2 0 1\nmemory 0 0\n" +
	"core A\nset r0 1\nstore r0 0\nload r1 1\nprint r1\nhalt\n" +
	"core B\nset r0 1\nstore r0 1\nload r1 0\nprint r1\nhalt\n"

// Example 1: store buffering: both loads see 0.
func TestBuffering(t *testing.T) {
	m := machine(t, buffering)
	for core := range 2 {
		did(t, m, run(core), api.Did{Kind: api.DidCompute, Core: core})
		did(t, m, run(core), api.Did{Kind: api.DidStore, Core: core, At: 1, Addr: core, Word: 1})
		did(t, m, run(core), api.Did{Kind: api.DidLoad, Core: core, At: 2, Addr: 1 - core})
	}
	if l := m.Ready(); !slices.Equal(l, []api.Step{drain(0), drain(1)}) {
		t.Error(l)
	}
	refused(t, m, run(0), api.ErrStall)
	did(t, m, drain(0), api.Did{Kind: api.DidDrain, At: 1, Word: 1})
	did(t, m, run(0), api.Did{Kind: api.DidPrint, At: 3})
	refused(t, m, run(1), api.ErrStall)
	did(t, m, drain(1), api.Did{Kind: api.DidDrain, Core: 1, At: 1, Addr: 1, Word: 1})
	did(t, m, run(1), api.Did{Kind: api.DidPrint, Core: 1, At: 3})
	if l := m.Prints(); !slices.Equal(l, []api.Print{{}, {Thread: 1}}) {
		t.Error(l)
	}
	did(t, m, run(1), api.Did{Kind: api.DidHalt, Core: 1, At: 4})
	if m.Ended() || !slices.Equal(m.Ready(), []api.Step{run(0)}) {
		t.Error(m.Ready())
	}
	did(t, m, run(0), api.Did{Kind: api.DidHalt, At: 4})
	if l := m.Memory(); !m.Ended() || len(m.Ready()) != 0 || !slices.Equal(l, []int64{1, 1}) {
		t.Error(l, m.Ready())
	}
	for core := range 2 {
		idle(t, m, run(core))
		idle(t, m, drain(core))
	}
}

// Example 2: a full buffer; one that is drained and drained again; what is no step, or of no core.
func TestFull(t *testing.T) {
	m := machine(t, "object 2 0 1\nmemory 0 0\ncore A\nset r0 1\nstore r0 0\nstore r0 1\nhalt\ncore B\nhalt\n")
	runs(t, m, 0, 2)
	refused(t, m, run(0), api.ErrStall)
	did(t, m, drain(0), api.Did{Kind: api.DidDrain, At: 1, Addr: 0, Word: 1})
	idle(t, m, drain(0))
	for _, kind := range []api.StepKind{api.StepNone, api.StepCount, 200, 255} {
		for _, core := range []int{0, 1, 2, -1} {
			refused(t, m, api.Step{Kind: kind, Core: core}, api.ErrWord)
		}
	}
	for _, core := range []int{2, -1, 8, math.MaxInt, math.MinInt} {
		refused(t, m, run(core), api.ErrCore)
		refused(t, m, drain(core), api.ErrCore)
		if d, why := m.Run(core); d != (api.Did{}) || why != api.ErrCore {
			t.Error("Run of", core, d, "error", why)
		}
		if d, why := m.Drain(core); d != (api.Did{}) || why != api.ErrCore {
			t.Error("Drain of", core, d, "error", why)
		}
		if v, why := m.View(core); fmt.Sprint(v) != fmt.Sprint(api.CoreView{}) || why != api.ErrCore {
			t.Error("View of", core, v, "error", why)
		}
	}
	did(t, m, run(0), api.Did{Kind: api.DidStore, At: 2, Addr: 1, Word: 1})
}

// Example 3: a swap; one that must wait.
func TestSwap(t *testing.T) {
	m := machine(t, "object 1 0 2\nmemory 7\ncore A\nset r0 5\nswap r0 0\nstore r0 0\nswap r3 0\nhalt\n")
	runs(t, m, 0, 1)
	did(t, m, run(0), api.Did{Kind: api.DidSwap, At: 1, Word: 7, Put: 5})
	if v, why := m.View(0); v.Regs[0] != 7 || m.Memory()[0] != 5 || why != api.OK {
		t.Error(v, m.Memory())
	}
	runs(t, m, 0, 1)
	refused(t, m, run(0), api.ErrStall)
	did(t, m, drain(0), api.Did{Kind: api.DidDrain, At: 2, Word: 7})
	did(t, m, run(0), api.Did{Kind: api.DidSwap, At: 3, Word: 7})
	if v, _ := m.View(0); v.Regs[3] != 7 || v.Regs[0] != 7 || m.Memory()[0] != 0 {
		t.Error(v, m.Memory())
	}
}

// Each kind of instructions: what it did, where the core goes on.
func TestKinds(t *testing.T) {
	for _, x := range []struct {
		code  string // instructions; r1 is 6, r2 0, memory is 4 at 0, 9 at 1
		want  api.Did
		at    int
		regs  string
		print string
	}{
		{"set r3 -8", api.Did{Kind: api.DidCompute}, 1, "3:-8", ""},
		{"set r1 0", api.Did{Kind: api.DidCompute}, 1, "1:0", ""},
		{"sub r3 r2 r1", api.Did{Kind: api.DidCompute}, 1, "3:-6", ""},
		{"sub r1 r1 r1", api.Did{Kind: api.DidCompute}, 1, "1:0", ""},
		{"minus r3 r1", api.Did{Kind: api.DidCompute}, 1, "3:-6", ""},
		{"not r2 r2", api.Did{Kind: api.DidCompute}, 1, "2:1", ""},
		{"load r3 1", api.Did{Kind: api.DidLoad, Addr: 1, Word: 9}, 1, "3:9", ""},
		{"store r1 1", api.Did{Kind: api.DidStore, Addr: 1, Word: 6}, 1, "", ""},
		{"store r2 0", api.Did{Kind: api.DidStore}, 1, "", ""},
		{"swap r1 1", api.Did{Kind: api.DidSwap, Addr: 1, Word: 9, Put: 6}, 1, "1:9", ""},
		{"swap r2 0", api.Did{Kind: api.DidSwap, Word: 4}, 1, "2:4", ""},
		{"fence", api.Did{Kind: api.DidFence}, 1, "", ""},
		{"print r1", api.Did{Kind: api.DidPrint, Word: 6}, 1, "", "[{0 6}]"},
		{"jump 0", api.Did{Kind: api.DidCompute}, 0, "", ""},
		{"jump 2", api.Did{Kind: api.DidCompute}, 2, "", ""},
		{"zero r2 2", api.Did{Kind: api.DidCompute}, 2, "", ""},
		{"zero r2 0", api.Did{Kind: api.DidCompute}, 0, "", ""},
		{"zero r1 2", api.Did{Kind: api.DidCompute}, 1, "", ""},
		{"halt", api.Did{Kind: api.DidHalt}, 0, "", ""},
	} {
		o := object(t, "object 2 0 1\nmemory 4 9\ncore a\nset r1 6\njump 2\n"+x.code+"\nhalt\nhalt\n")
		for n := range o.Cores[0].Code[2:] { // what is told of is instruction 2
			if i := &o.Cores[0].Code[n+2]; i.Kind == api.InstrJump || i.Kind == api.InstrZero {
				i.To += 2
			}
		}
		m := ahead(t, o)
		runs(t, m, 0, 2)
		want, _ := m.View(0)
		x.want.At, want.At, want.Halted = 2, x.at+2, x.want.Kind == api.DidHalt
		var reg int
		var w int64
		if n, _ := fmt.Sscanf(x.regs, "%d:%d", &reg, &w); n == 2 {
			want.Regs[reg] = w
		}
		memory := []int64{4, 9}
		switch x.want.Kind {
		case api.DidStore:
			want.Buffer = []api.Store{{At: 2, Addr: x.want.Addr, Word: x.want.Word}}
		case api.DidSwap:
			memory[x.want.Addr] = x.want.Put
		}
		did(t, m, run(0), x.want)
		v, why := m.View(0)
		if fmt.Sprint(v) != fmt.Sprint(want) || why != api.OK || !slices.Equal(m.Memory(), memory) {
			t.Errorf("%s: %v, %v, not %v, %v", x.code, v, m.Memory(), want, memory)
		}
		if l := m.Prints(); len(l) > 0 && fmt.Sprint(l) != x.print || len(l) == 0 && x.print != "" {
			t.Errorf("%s: %v is printed", x.code, l)
		}
	}
}

// Operators: as words has them, of words at their edges; a register may be all three.
func TestOperators(t *testing.T) {
	edges := []int64{0, 1, -1, 2, 7, -9, 63, 64, math.MaxInt64, math.MinInt64, math.MinInt64 + 1}
	for op := api.OpNone + 1; op < api.OpCount; op++ {
		for _, a := range edges {
			for _, b := range edges {
				i := api.Instr{Kind: api.InstrOp, Op: op, D: 2}
				want, _ := words.One(op, a)
				if words.Two(op) {
					i.B = 1
					want, _ = words.Do(op, a, b)
				}
				m := ahead(t, api.Object{Buffer: 1, Cores: []api.Core{{Name: "a", Code: []api.Instr{
					{Kind: api.InstrSet, Word: a}, {Kind: api.InstrSet, D: 1, Word: b}, i, {Kind: api.InstrPrint, A: 2}, {Kind: api.InstrHalt},
				}}}})
				runs(t, m, 0, 4)
				if l := m.Prints(); len(l) != 1 || l[0].Word != want {
					t.Errorf("%d of %d, %d: %v, not %d", op, a, b, l, want)
				}
			}
		}
	}
	m := machine(t, "object 0 0 1\nmemory\ncore a\nset r15 3\nmul r15 r15 r15\nadd r15 r15 r15\nprint r15\nhalt\n")
	runs(t, m, 0, 4)
	if l := m.Prints(); l[0].Word != 18 {
		t.Error(l)
	}
}

// A load has the newest store of its own that waits, to that address alone; else what memory has, whatever others' buffers have.
func TestOwn(t *testing.T) {
	m := machine(t, "object 2 0 3\nmemory 7 8\n"+
		"core a\nset r0 1\nset r1 2\nstore r0 0\nstore r1 0\nstore r0 1\nload r2 0\nload r3 1\nload r4 0\nload r5 0\nhalt\n"+
		"core b\nload r0 0\nload r1 1\nload r2 0\njump 0\n")
	runs(t, m, 0, 5)
	did(t, m, run(0), api.Did{Kind: api.DidLoad, At: 5, Word: 2, Own: true})
	did(t, m, run(0), api.Did{Kind: api.DidLoad, At: 6, Addr: 1, Word: 1, Own: true})
	did(t, m, run(1), api.Did{Kind: api.DidLoad, Core: 1, Word: 7})
	did(t, m, run(1), api.Did{Kind: api.DidLoad, Core: 1, At: 1, Addr: 1, Word: 8})
	did(t, m, drain(0), api.Did{Kind: api.DidDrain, At: 2, Word: 1})
	did(t, m, run(1), api.Did{Kind: api.DidLoad, Core: 1, At: 2, Word: 1})
	did(t, m, run(0), api.Did{Kind: api.DidLoad, At: 7, Word: 2, Own: true})
	did(t, m, drain(0), api.Did{Kind: api.DidDrain, At: 3, Word: 2})
	did(t, m, run(0), api.Did{Kind: api.DidLoad, At: 8, Word: 2})
	v, why := m.View(0)
	if why != api.OK || v.At != 9 || v.Halted || v.Regs != [api.NumRegs]int64{1, 2, 2, 1, 2, 2} || !slices.Equal(v.Buffer, []api.Store{{At: 4, Addr: 1, Word: 1}}) {
		t.Error(v, why)
	}
}

// A core that has halted does nothing more, but its stores still go to memory; an InstrHalt and a store do not wait for others.
func TestHalted(t *testing.T) {
	m := machine(t, "object 1 0 16\nmemory 3\ncore a\nstore r0 0\nset r0 5\nstore r0 0\nhalt\n")
	runs(t, m, 0, 4)
	idle(t, m, run(0))
	if v, _ := m.View(0); !v.Halted || v.At != 3 || len(v.Buffer) != 2 {
		t.Error(v)
	}
	for n, want := range []api.Did{{Kind: api.DidDrain}, {Kind: api.DidDrain, At: 2, Word: 5}} {
		if l := m.Ready(); m.Ended() || !slices.Equal(l, []api.Step{drain(0)}) {
			t.Error(n, l)
		}
		did(t, m, drain(0), want)
		idle(t, m, run(0))
	}
	if l := m.Memory(); !m.Ended() || len(m.Ready()) != 0 || !slices.Equal(l, []int64{5}) {
		t.Error(l)
	}
	idle(t, m, drain(0))
}

// A buffer holds just so many stores; what waits for an empty one waits for all of them; others go on.
func TestRoom(t *testing.T) {
	for room := 1; room <= api.MaxBuffer; room++ {
		o := object(t, "object 1 0 1\nmemory 0\ncore a\nset r0 1\nzero r1 4\nfence\njump 2\nadd r1 r1 r0\nstore r1 0\njump 4\n"+
			"core b\nswap r0 0\nfence\nprint r0\njump 0\n")
		o.Buffer = room
		m := ahead(t, o)
		runs(t, m, 0, 2)
		for range room {
			runs(t, m, 0, 3)
			runs(t, m, 1, 4)
		}
		runs(t, m, 0, 1)
		refused(t, m, run(0), api.ErrStall)
		if l := m.Ready(); !slices.Equal(l, []api.Step{drain(0), run(1)}) {
			t.Error(room, l)
		}
		for n := range room {
			did(t, m, drain(0), api.Did{Kind: api.DidDrain, At: 5, Word: int64(n + 1)})
			did(t, m, run(0), api.Did{Kind: api.DidStore, At: 5, Word: int64(room + n + 1)})
			runs(t, m, 0, 2)
			refused(t, m, run(0), api.ErrStall)
		}
	}
	for _, wait := range []string{"fence", "swap r0 1", "print r0"} {
		m := machine(t, "object 2 0 3\nmemory 0 0\ncore a\nstore r0 0\nstore r0 0\nstore r0 0\n"+wait+"\nhalt\n")
		runs(t, m, 0, 3)
		for range 3 {
			refused(t, m, run(0), api.ErrStall)
			if l := m.Ready(); !slices.Equal(l, []api.Step{drain(0)}) {
				t.Error(wait, l)
			}
			if d, why := m.Drain(0); d.Kind != api.DidDrain || why != api.OK {
				t.Error(wait, d, "error", why)
			}
		}
		runs(t, m, 0, 1)
	}
}

// P18.1, P4: forks go their own ways, whatever waits in a buffer when they part.
func TestFork(t *testing.T) {
	for waiting := range api.MaxBuffer {
		o := object(t, "object 2 0 16\nmemory 3 0\ncore a\nset r0 1\nload r1 0\nstore r1 1\nprint r1\nhalt\ncore b\nset r0 5\nstore r0 0\nhalt\n")
		stores := slices.Repeat([]api.Instr{{Kind: api.InstrStore, Addr: 1}}, waiting)
		o.Cores[0].Code = slices.Insert(o.Cores[0].Code, 1, stores...)
		m := ahead(t, o)
		runs(t, m, 0, 1+waiting)
		runs(t, m, 1, 2)
		f := m.Fork()
		if is, was := stands(f), stands(m); is != was {
			t.Fatal(is, "not", was)
		}
		did(t, f, drain(1), api.Did{Kind: api.DidDrain, Core: 1, At: 1, Word: 5})
		for n, x := range []*vm.Machine{m, f} { // each stores what it has loaded, and only then the buffers are looked at
			did(t, x, run(0), api.Did{Kind: api.DidLoad, At: 1 + waiting, Word: int64(3 + 2*n)})
			did(t, x, run(0), api.Did{Kind: api.DidStore, At: 2 + waiting, Addr: 1, Word: int64(3 + 2*n)})
		}
		for n, x := range []*vm.Machine{m, f} {
			for i := range waiting {
				did(t, x, drain(0), api.Did{Kind: api.DidDrain, At: 1 + i, Addr: 1, Word: 1})
			}
			did(t, x, drain(0), api.Did{Kind: api.DidDrain, At: 2 + waiting, Addr: 1, Word: int64(3 + 2*n)})
			did(t, x, run(0), api.Did{Kind: api.DidPrint, At: 3 + waiting, Word: int64(3 + 2*n)})
		}
	}
}

// P18.1, P18.6: memories of all sizes: what one of two forks writes, wherever that is, is written there alone, and in that one alone.
func TestMemory(t *testing.T) {
	for _, size := range []int{1, 2, 31, 32, 33, 63, 64, 65, 1000, api.MaxMemory - 1, api.MaxMemory} {
		o := api.Object{Buffer: 1, Memory: make([]int64, size), Cores: []api.Core{{Name: "a"}, {Name: "b"}}}
		places := []int{0, size / 2, size - 1, min(31, size-1), min(32, size-1)}
		for at := range o.Memory {
			o.Memory[at] = int64(at * at)
		}
		for i, at := range places {
			o.Cores[0].Code = append(o.Cores[0].Code, api.Instr{Kind: api.InstrSet, Word: int64(-i - 1)}, api.Instr{Kind: api.InstrSwap, Addr: at})
			o.Cores[1].Code = append(o.Cores[1].Code, api.Instr{Kind: api.InstrSet, Word: int64(-i - 9)}, api.Instr{Kind: api.InstrStore, Addr: at}, api.Instr{Kind: api.InstrLoad, D: 1, Addr: at})
		}
		for i := range o.Cores {
			o.Cores[i].Code = append(o.Cores[i].Code, api.Instr{Kind: api.InstrHalt})
		}
		m := ahead(t, o)
		f, want, wantFork := m.Fork(), slices.Clone(o.Memory), slices.Clone(o.Memory)
		for i, at := range places {
			runs(t, m, 0, 1)
			did(t, m, run(0), api.Did{Kind: api.DidSwap, At: 2*i + 1, Addr: at, Word: want[at], Put: int64(-i - 1)})
			runs(t, f, 1, 2)
			did(t, f, drain(1), api.Did{Kind: api.DidDrain, Core: 1, At: 3*i + 1, Addr: at, Word: int64(-i - 9)})
			did(t, f, run(1), api.Did{Kind: api.DidLoad, Core: 1, At: 3*i + 2, Addr: at, Word: int64(-i - 9)})
			want[at], wantFork[at] = int64(-i-1), int64(-i-9)
			if is, isFork := m.Memory(), f.Memory(); !slices.Equal(is, want) || !slices.Equal(isFork, wantFork) {
				t.Fatal(size, i, at, "has another word")
			}
		}
		if is := m.Fork().Memory(); !slices.Equal(is, want) {
			t.Fatal(size, "a fork of what was written")
		}
	}
}

// P18.1: objects that may not be are none; those that hardly may.
func TestNew(t *testing.T) {
	for _, spoil := range []func(o *api.Object){
		func(o *api.Object) { o.Buffer = 0 },
		func(o *api.Object) { o.Buffer = api.MaxBuffer + 1 },
		func(o *api.Object) { o.Shared = -1 },
		func(o *api.Object) { o.Locks = 1 },
		func(o *api.Object) { o.Memory = nil },
		func(o *api.Object) { o.Memory = make([]int64, api.MaxMemory+1) },
		func(o *api.Object) { o.Cores[1].Name = "A" },
		func(o *api.Object) { o.Cores[1].Name = "" },
		func(o *api.Object) { o.Cores = slices.Repeat(o.Cores, 5) },
		func(o *api.Object) { o.Cores[0].Code = nil },
		func(o *api.Object) { o.Cores[0].Code = o.Cores[0].Code[:4] },
		func(o *api.Object) { o.Cores[0].Code = make([]api.Instr, api.MaxCode+1) },
		func(o *api.Object) { o.Cores[0].Code[0].D = api.NumRegs },
		func(o *api.Object) { o.Cores[0].Code[0].Kind = api.InstrCount },
		func(o *api.Object) { o.Cores[0].Code[1].Addr = 2 },
		func(o *api.Object) { o.Cores[0].Code[4] = api.Instr{Kind: api.InstrJump, To: -1} },
		func(o *api.Object) { o.Cores[1].Code[4] = api.Instr{Kind: api.InstrJump, To: 5} },
		func(o *api.Object) { o.Cores[1].Code[2].From = -1 },
	} {
		o := object(t, buffering)
		spoil(&o)
		if m, why := vm.New(o); m != nil || why != api.ErrObject {
			t.Errorf("New(%.200s): %v, error %d", fmt.Sprint(o), m, why)
		}
		for _, l := range [][]api.Step{nil, {run(0)}, make([]api.Step, api.MaxSteps+1)} {
			if d, e, why := vm.Play(o, l); d != nil || e != nil || why != api.ErrObject {
				t.Errorf("Play of %.200s: error %d", fmt.Sprint(o), why)
			}
		}
	}
	m := ahead(t, api.Object{Buffer: 1})
	if m.Cores() != 0 || !m.Ended() || len(m.Ready())+len(m.Memory())+len(m.Prints()) != 0 {
		t.Error(stands(m))
	}
	refused(t, m, run(0), api.ErrCore)
	m = machine(t, "object 1 1 3\nmemory 5 -6 7\ncore a\njump 0\ncore b\nhalt\n")
	if m.Cores() != 2 || m.Ended() || len(m.Prints()) != 0 || !slices.Equal(m.Memory(), []int64{5, -6, 7}) || !slices.Equal(m.Ready(), []api.Step{run(0), run(1)}) {
		t.Error(stands(m))
	}
	for core := range 2 {
		if v, why := m.View(core); fmt.Sprint(v) != fmt.Sprint(api.CoreView{}) || why != api.OK {
			t.Error(v, why)
		}
	}
	for range 9 {
		did(t, m, run(0), api.Did{Kind: api.DidCompute})
	}
}

// P18.4: a schedule on a new machine: what each step did, and its error.
func TestPlay(t *testing.T) {
	o := object(t, buffering)
	l := []api.Step{run(0), run(0), run(0), run(0), {Kind: 7, Core: 1}, drain(0), drain(0), run(2), run(0), run(0), run(0), drain(-1)}
	dids, errs, why := vm.Play(o, l)
	wantDids := []api.Did{
		{Kind: api.DidCompute}, {Kind: api.DidStore, At: 1, Word: 1}, {Kind: api.DidLoad, At: 2, Addr: 1}, {}, {}, {Kind: api.DidDrain, At: 1, Word: 1}, {}, {},
		{Kind: api.DidPrint, At: 3}, {Kind: api.DidHalt, At: 4}, {}, {},
	}
	wantErrs := []api.Errno{0, 0, 0, api.ErrStall, api.ErrWord, 0, 0, api.ErrCore, 0, 0, 0, api.ErrCore}
	if !slices.Equal(dids, wantDids) || !slices.Equal(errs, wantErrs) || why != api.OK {
		t.Error(dids, errs, why)
	}
	if dids, errs, why := vm.Play(o, nil); len(dids) != 0 || len(errs) != 0 || why != api.OK {
		t.Error(dids, errs, why)
	}
}

// P18.4, P1: as many steps as there may be, and one more.
func TestLongest(t *testing.T) {
	o := object(t, "object 1 0 16\nmemory 0\ncore a\nset r0 1\nadd r1 r1 r0\nstore r1 0\nload r2 0\nstore r2 0\nfence\nprint r2\njump 1\n")
	l := make([]api.Step, api.MaxSteps)
	for i := range l {
		l[i] = run(0)
		if i%3 == 2 {
			l[i] = drain(0)
		}
	}
	dids, errs, why := vm.Play(o, l)
	if len(dids) != len(l) || len(errs) != len(l) || why != api.OK {
		t.Fatal(len(dids), len(errs), why)
	}
	last := int64(0)
	for _, d := range dids {
		if d.Kind == api.DidPrint {
			last++
			if d.Word != last {
				t.Fatal(d, "not", last)
			}
		}
	}
	if last < 80000 {
		t.Error(last)
	}
	if dids, errs, why := vm.Play(o, append(l, run(0))); dids != nil || errs != nil || why != api.ErrMany {
		t.Error(len(dids), len(errs), "error", why)
	}
}

// P18.5: a nil machine.
func TestNil(t *testing.T) {
	var m *vm.Machine
	if m.Fork() != nil || m.Cores() != 0 || m.Memory() != nil || m.Prints() != nil || m.Ended() || m.Ready() != nil {
		t.Error(m.Fork(), m.Cores(), m.Memory(), m.Prints(), m.Ended(), m.Ready())
	}
	for _, core := range []int{0, -1, 9} {
		if d, why := m.Run(core); d != (api.Did{}) || why != api.ErrNil {
			t.Error("Run:", d, "error", why)
		}
		if d, why := m.Drain(core); d != (api.Did{}) || why != api.ErrNil {
			t.Error("Drain:", d, "error", why)
		}
		if v, why := m.View(core); fmt.Sprint(v) != fmt.Sprint(api.CoreView{}) || why != api.ErrNil {
			t.Error("View:", v, "error", why)
		}
		for kind := range api.StepCount + 2 {
			if d, why := m.Step(api.Step{Kind: kind, Core: core}); d != (api.Did{}) || why != api.ErrNil {
				t.Error("Step:", d, "error", why)
			}
		}
	}
}
