package order_test

import (
	"fmt"
	"math"
	"slices"
	"testing"

	"stile/api"
	"stile/order"
	"stile/target"
)

func object(t *testing.T, s string) api.Object {
	t.Helper()
	o, why, at := target.Parse(s)
	if why != api.OK {
		t.Fatalf("Parse(%q): error %d at %d", s, why, at)
	}
	return o
}

// steps are those of a text: of each byte a digit is a core that runs, a letter (a for core 0) one whose buffer drains.
func steps(s string) []api.Step {
	var l []api.Step
	for _, b := range []byte(s) {
		if b >= 'a' {
			l = append(l, api.Step{Kind: api.StepDrain, Core: int(b - 'a')})
		} else {
			l = append(l, api.Step{Kind: api.StepRun, Core: int(b - '0')})
		}
	}
	return l
}

func gather(t *testing.T, o api.Object, l []api.Step) api.Execution {
	t.Helper()
	x, why := order.Gather(o, l)
	if why != api.OK {
		t.Fatalf("Gather of %.300s: error %d", fmt.Sprint(l), why)
	}
	if why, at := order.Check(x); why != api.OK || at != 0 {
		t.Fatalf("Gather of %.300s: error %d at %d", fmt.Sprint(l), why, at)
	}
	return x
}

// gathered holds that a schedule has an execution.
func gathered(t *testing.T, o api.Object, s string, want api.Execution) {
	t.Helper()
	if x := gather(t, o, steps(s)); fmt.Sprint(x) != fmt.Sprint(want) {
		t.Errorf("Gather of %s: %v, not %v", s, x, want)
	}
}

func load(thread, thing int, saw int64) api.Deed {
	return api.Deed{Kind: api.DeedRead, Thread: thread, Thing: thing, Saw: saw}
}

func store(thread, thing int, put int64) api.Deed {
	return api.Deed{Kind: api.DeedWrite, Thread: thread, Thing: thing, Put: put}
}

func swap(thread, thing int, saw, put int64) api.Deed {
	return api.Deed{Kind: api.DeedBoth, Thread: thread, Thing: thing, Saw: saw, Put: put}
}

func fence(thread int) api.Deed { return api.Deed{Kind: api.DeedFence, Thread: thread} }

// Chapter 18's example 1.
const buffering = "object 2 0 2\nmemory 0 0\ncore A\nset r0 1\nstore r0 0\nload r1 1\nprint r1\nhalt\ncore B\nset r0 1\nstore r0 1\nload r1 0\nprint r1\nhalt\n"

// 22.4: store buffering, as buffers drain early, late or not at all: then core by core.
func TestGatherBuffering(t *testing.T) {
	o := object(t, buffering)
	first := []int64{0, 0}
	gathered(t, o, "", api.Execution{First: first, After: [][]int{{}, {}}})
	gathered(t, o, "01", api.Execution{First: first, After: [][]int{{}, {}}})
	gathered(t, o, "00", api.Execution{First: first, Events: []api.Deed{store(0, 0, 1)}, From: []int{-1}, After: [][]int{{0}, {}}})
	both := []api.Deed{store(0, 0, 1), load(0, 1, 0), store(1, 1, 1), load(1, 0, 0)}
	want := api.Execution{First: first, Events: both, From: []int{-1, -1, -1, -1}, After: [][]int{{0}, {2}}}
	gathered(t, o, "000111", want)
	gathered(t, o, "000111ba", want)
	gathered(t, o, "00001111", want) // the prints must wait
	if got := verdict(t, want); got != "CTp" {
		t.Error(got)
	}
	want.Events, want.From = append(both, fence(0), fence(1)), []int{-1, -1, -1, -1, -1, -1}
	gathered(t, o, "000111ab0101", want)
	want.Events = []api.Deed{store(0, 0, 1), load(0, 1, 0), store(1, 1, 1), load(1, 0, 1)}
	want.From = []int{-1, -1, -1, 0}
	gathered(t, o, "000a111", want)
	want.Events = []api.Deed{store(0, 0, 1), store(1, 1, 1), load(0, 1, 1), load(1, 0, 1)}
	want.From, want.After = []int{-1, -1, 1, 0}, [][]int{{0}, {1}}
	gathered(t, o, "0011ab01", want)
	// What is refused, or does nothing, is no event: no core, no step, an empty buffer, a core that has halted.
	l := steps("0a0a2b0000000")
	l = append(l, api.Step{}, api.Step{Core: 1}, api.Step{Kind: api.StepCount}, api.Step{Kind: api.StepRun, Core: -1}, api.Step{Kind: api.StepDrain, Core: math.MaxInt})
	if x := gather(t, o, l); fmt.Sprint(x.Events) != fmt.Sprint([]api.Deed{store(0, 0, 1), load(0, 1, 0), fence(0)}) {
		t.Error(x.Events)
	}
}

// 22.4: each kind; which write is seen: the core's own last one that waits, else what came to memory last, a store or an exchange; at whatever address.
func TestGatherKinds(t *testing.T) {
	o := object(t, "object 1 1 4\nmemory 7 0 -3\ncore a\nset r0 5\nstore r0 0\nset r1 6\nstore r1 0\nstore r0 2\nload r2 0\nload r2 2\nload r2 1\nfence\nload r2 0\nswap r2 0\nload r3 0\nprint r3\nhalt\ncore b\nset r0 1\nswap r0 1\nstore r0 0\nload r1 0\nload r1 2\nadd r1 r1 r1\nhalt\n")
	want := api.Execution{
		First: []int64{7, 0, -3},
		Events: []api.Deed{
			store(0, 0, 5), store(0, 0, 6), store(0, 2, 5), load(0, 0, 6), load(0, 2, 5), load(0, 1, 0), // 0 to 5
			swap(1, 1, 0, 1), store(1, 0, 0), load(1, 0, 0), load(1, 2, -3), // 6 to 9
			fence(0), load(0, 0, 6), swap(0, 0, 6, 6), load(0, 0, 6), fence(0), // 10 to 14
		},
		From:  []int{-1, -1, -1, 1, 2, -1, -1, -1, 7, -1, -1, 1, 1, 12, -1},
		After: [][]int{{7, 0, 1, 12}, {6}, {2}},
	}
	gathered(t, o, "00000000"+"11111"+"baaa"+"0000001", want)
	// Core by core at the end: core 0's stores go to memory ahead of core 1's, each core's as they were done.
	gathered(t, o, "11100000", api.Execution{
		First:  []int64{7, 0, -3},
		Events: []api.Deed{swap(1, 1, 0, 1), store(1, 0, 0), store(0, 0, 5), store(0, 0, 6), store(0, 2, 5)},
		From:   []int{-1, -1, -1, -1, -1},
		After:  [][]int{{2, 3, 1}, {0}, {4}},
	})
	// What was there at first is seen once more, when it was written again: by the write.
	o = object(t, "object 1 0 1\nmemory 0\ncore a\nstore r0 0\nload r0 0\nload r0 0\nhalt\ncore b\nload r0 0\njump 0\n")
	gathered(t, o, "10011a011", api.Execution{
		First:  []int64{0},
		Events: []api.Deed{load(1, 0, 0), store(0, 0, 0), load(0, 0, 0), load(1, 0, 0), load(0, 0, 0), load(1, 0, 0)},
		From:   []int{-1, -1, 1, -1, 1, 1},
		After:  [][]int{{1}},
	})
}

// 22.4: the object comes first; then there are too many steps, or events: as many as there may be, and one more.
func TestGatherErrors(t *testing.T) {
	refused := func(o api.Object, l []api.Step, want api.Errno) {
		t.Helper()
		x, why := order.Gather(o, l)
		if x.First != nil || x.Events != nil || x.From != nil || x.After != nil || why != want {
			t.Errorf("Gather of %d steps: %v, error %d, not %d", len(l), x, why, want)
		}
	}
	o := object(t, "object 1 0 1\nmemory 0\ncore a\nload r0 0\njump 0\ncore b\njump 0\n")
	bad := o
	bad.Buffer = 0
	many := make([]api.Step, api.MaxSteps+1)
	for _, l := range [][]api.Step{nil, steps("0000"), many} {
		refused(bad, l, api.ErrObject)
		refused(api.Object{}, l, api.ErrObject)
	}
	l := slices.Repeat(steps("01"), 127) // 64 loads
	if x := gather(t, o, l); len(x.Events) != api.MaxEvents {
		t.Error(len(x.Events))
	}
	refused(o, append(l, steps("00")...), api.ErrMany)
	refused(o, many, api.ErrMany)
	idle := slices.Repeat(steps("1"), api.MaxSteps)
	if x := gather(t, o, idle); len(x.Events) != 0 {
		t.Error(len(x.Events))
	}
	refused(o, append(idle, steps("1")...), api.ErrMany)
	copy(idle[api.MaxSteps-len(l):], l)
	if x := gather(t, o, idle); len(x.Events) != api.MaxEvents {
		t.Error(len(x.Events))
	}
	copy(idle, steps("00"))
	refused(o, idle, api.ErrMany)
	// Stores that wait at the end are no events more.
	o = object(t, "object 1 0 16\nmemory 0\ncore a\nstore r0 0\njump 0\ncore b\nstore r0 0\njump 0\n")
	x := gather(t, o, slices.Concat(slices.Repeat(steps("00a11b"), 16), slices.Repeat(steps("0011"), 16)))
	if len(x.Events) != api.MaxEvents || len(x.After[0]) != api.MaxEvents {
		t.Error(len(x.Events), len(x.After[0]))
	}
	// As much memory, and as many cores, as there may be.
	o = api.Object{Memory: make([]int64, api.MaxMemory), Buffer: 1}
	for core := range api.MaxThreads {
		o.Cores = append(o.Cores, api.Core{Name: string(rune('a' + core)), Code: []api.Instr{{Kind: api.InstrSwap, Addr: api.MaxMemory - 1}, {Kind: api.InstrHalt}}})
	}
	x = gather(t, o, steps("76543210"))
	if len(x.First) != api.MaxMemory || !slices.Equal(x.After[api.MaxMemory-1], []int{0, 1, 2, 3, 4, 5, 6, 7}) || !slices.Equal(x.From, []int{-1, 0, 1, 2, 3, 4, 5, 6}) || verdict(t, x) != "CTP" {
		t.Error(x.Events, x.From)
	}
	// Nothing at all.
	x = gather(t, api.Object{Buffer: 1}, steps("0ab1"))
	if len(x.First)+len(x.Events)+len(x.From)+len(x.After) != 0 {
		t.Error(x)
	}
}
