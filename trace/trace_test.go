package trace_test

import (
	"fmt"
	"math"
	"slices"
	"strings"
	"testing"

	"stile/api"
	"stile/target"
	"stile/trace"
)

// object is the right one of a text.
func object(t *testing.T, s string) api.Object {
	t.Helper()
	o, why, at := target.Parse(s)
	if why != api.OK {
		t.Fatalf("Parse(%q): error %d at %d", s, why, at)
	}
	return o
}

func run(core int) api.Step { return api.Step{Kind: api.StepRun, Core: core} }

func drain(core int) api.Step { return api.Step{Kind: api.StepDrain, Core: core} }

func of(t *testing.T, o api.Object, l []api.Step) []api.Did {
	t.Helper()
	dids, why := trace.Of(o, l)
	if why != api.OK {
		t.Fatalf("Of %.300s: error %d", fmt.Sprint(l), why)
	}
	return dids
}

func printed(t *testing.T, l []api.Did) string {
	t.Helper()
	s, why := trace.Print(l)
	if why != api.OK {
		t.Fatalf("Print of %.300s: error %d", fmt.Sprint(l), why)
	}
	return s
}

func parsed(t *testing.T, s string) []api.Did {
	t.Helper()
	l, why, line := trace.Parse(s)
	if why != api.OK || line != 0 {
		t.Fatalf("Parse(%.300q): error %d, line %d", s, why, line)
	}
	return l
}

func events(t *testing.T, o api.Object, l []api.Did) []api.Event {
	t.Helper()
	e, why := trace.Events(o, l)
	if why != api.OK {
		t.Fatalf("Events of %.300s: error %d", fmt.Sprint(l), why)
	}
	return e
}

// Example 1 of chapter 17.
const one = "object 1 0 4\nmemory 0\ncore a\nset r13 5 @1\nstore r13 0 @1\nload r0 0 @2\nprint r0 @3\nhalt @4\n"

// Examples 1 and 2; and how that run goes on.
func TestExamples(t *testing.T) {
	o := object(t, one)
	l := of(t, o, []api.Step{run(0), run(0), run(0), run(0)})
	want := []api.Did{{Kind: api.DidCompute}, {Kind: api.DidStore, At: 1, Word: 5}, {Kind: api.DidLoad, At: 2, Word: 5, Own: true}}
	if !slices.Equal(l, want) {
		t.Error(l)
	}
	if s := printed(t, l); s != "0 0 compute\n0 1 store 0 5\n0 2 load 0 5 own\n" {
		t.Errorf("%q", s)
	}
	if e := events(t, o, l); !slices.Equal(e, []api.Event{{Kind: api.EventLoad, Word: 5, Own: true, At: 2}}) {
		t.Error(e)
	}
	l = of(t, o, []api.Step{run(0), run(0), run(0), run(0), drain(0), drain(0), run(0), run(1), {}, run(0), run(0)})
	if s := printed(t, l); s != "0 0 compute\n0 1 store 0 5\n0 2 load 0 5 own\n0 1 drain 0 5\n0 3 print 5\n0 4 halt\n" {
		t.Errorf("%q", s)
	}
	steps, why := trace.Steps(l)
	if !slices.Equal(steps, []api.Step{run(0), run(0), run(0), drain(0), run(0), run(0)}) || why != api.OK {
		t.Error(steps, why)
	}
	wantEvents := []api.Event{
		{Kind: api.EventLoad, Word: 5, Own: true, At: 2}, {Kind: api.EventStore, Word: 5, At: 3},
		{Kind: api.EventPrint, Word: 5, At: 4}, {Kind: api.EventHalt, At: 5},
	}
	if e := events(t, o, l); !slices.Equal(e, wantEvents) {
		t.Error(e)
	}
	if n, why := trace.Check(o, l); n != 6 || why != api.OK {
		t.Error(n, why)
	}
}

// told is a right Did, and what the chapter says of it: its text, its step, its event, over variables 0 and 1, locks at 2 and 3 (and, in Dids of other kinds, nothing).
type told struct {
	did   api.Did
	text  string
	event api.Event
}

func tolds() []told {
	return []told{
		{api.Did{Kind: api.DidCompute, Core: 7, At: 16383}, "7 16383 compute", api.Event{}},
		{api.Did{Kind: api.DidLoad, Core: 1, At: 2, Addr: 1, Word: -9}, "1 2 load 1 -9", api.Event{Kind: api.EventLoad, Core: 1, Thing: 1, Word: -9}},
		{api.Did{Kind: api.DidLoad, Core: 1, At: 2, Word: 4, Own: true}, "1 2 load 0 4 own", api.Event{Kind: api.EventLoad, Core: 1, Word: 4, Own: true}},
		{api.Did{Kind: api.DidLoad, Addr: 2}, "0 0 load 2 0", api.Event{}},
		{api.Did{Kind: api.DidLoad, Addr: 4, Word: 1}, "0 0 load 4 1", api.Event{}},
		{api.Did{Kind: api.DidStore, Core: 3, At: 10, Addr: 1, Word: 7}, "3 10 store 1 7", api.Event{}},
		{api.Did{Kind: api.DidStore, Addr: 3}, "0 0 store 3 0", api.Event{}},
		{api.Did{Kind: api.DidStore, Addr: 4095, Word: math.MinInt64}, "0 0 store 4095 -9223372036854775808", api.Event{}},
		{api.Did{Kind: api.DidSwap, Core: 2, Addr: 1, Word: 8, Put: -3}, "2 0 swap 1 8 -3", api.Event{Kind: api.EventSwap, Core: 2, Thing: 1, Word: 8, Put: -3}},
		{api.Did{Kind: api.DidSwap, At: 5}, "0 5 swap 0 0 0", api.Event{Kind: api.EventSwap}},
		{api.Did{Kind: api.DidSwap, Core: 2, Addr: 2, Put: 1}, "2 0 swap 2 0 1", api.Event{Kind: api.EventLock, Core: 2}},
		{api.Did{Kind: api.DidSwap, Core: 5, Addr: 3, Put: -1}, "5 0 swap 3 0 -1", api.Event{Kind: api.EventLock, Core: 5, Thing: 1}},
		{api.Did{Kind: api.DidSwap, Addr: 3, Word: 1, Put: 1}, "0 0 swap 3 1 1", api.Event{}},
		{api.Did{Kind: api.DidSwap, Addr: 3, Word: -1}, "0 0 swap 3 -1 0", api.Event{}},
		{api.Did{Kind: api.DidSwap, Addr: 3}, "0 0 swap 3 0 0", api.Event{}},
		{api.Did{Kind: api.DidSwap, Addr: 4, Put: 1}, "0 0 swap 4 0 1", api.Event{}},
		{api.Did{Kind: api.DidFence, Core: 1, At: 3}, "1 3 fence", api.Event{}},
		{api.Did{Kind: api.DidPrint, Core: 4, At: 3, Word: math.MaxInt64}, "4 3 print 9223372036854775807", api.Event{Kind: api.EventPrint, Core: 4, Word: math.MaxInt64}},
		{api.Did{Kind: api.DidPrint}, "0 0 print 0", api.Event{Kind: api.EventPrint}},
		{api.Did{Kind: api.DidHalt, Core: 6, At: 1}, "6 1 halt", api.Event{Kind: api.EventHalt, Core: 6}},
		{api.Did{Kind: api.DidDrain, Core: 3, At: 10, Addr: 1, Word: 7}, "3 10 drain 1 7", api.Event{Kind: api.EventStore, Core: 3, Thing: 1, Word: 7}},
		{api.Did{Kind: api.DidDrain}, "0 0 drain 0 0", api.Event{Kind: api.EventStore}},
		{api.Did{Kind: api.DidDrain, Core: 3, Addr: 2}, "3 0 drain 2 0", api.Event{Kind: api.EventUnlock, Core: 3}},
		{api.Did{Kind: api.DidDrain, Core: 3, Addr: 3}, "3 0 drain 3 0", api.Event{Kind: api.EventUnlock, Core: 3, Thing: 1}},
		{api.Did{Kind: api.DidDrain, Addr: 3, Word: 1}, "0 0 drain 3 1", api.Event{}},
		{api.Did{Kind: api.DidDrain, Addr: 4}, "0 0 drain 4 0", api.Event{}},
	}
}

// 19.2 to 19.4: each kind: its text, its step, its event; alone, and with others ahead. (Dids need not be of the object.)
func TestKinds(t *testing.T) {
	o := object(t, "object 2 2 1\nmemory 0 0 0 0 0\n")
	var dids []api.Did
	var text string
	var steps []api.Step
	var all []api.Event
	for _, x := range tolds() {
		step := run(x.did.Core)
		if x.did.Kind == api.DidDrain {
			step = drain(x.did.Core)
		}
		var alone []api.Event
		if x.event.Kind != api.EventNone {
			alone = []api.Event{x.event}
			x.event.At = len(dids)
			all = append(all, x.event)
		}
		l := []api.Did{x.did}
		if s := printed(t, l); s != x.text+"\n" || !slices.Equal(parsed(t, s), l) {
			t.Errorf("%v: %q, not %q", x.did, s, x.text)
		}
		if s, why := trace.Steps(l); !slices.Equal(s, []api.Step{step}) || why != api.OK {
			t.Error(x.did, s, why)
		}
		if e := events(t, o, l); !slices.Equal(e, alone) {
			t.Error(x.did, e, "not", alone)
		}
		dids, text, steps = append(dids, x.did), text+x.text+"\n", append(steps, step)
	}
	if s := printed(t, dids); s != text || !slices.Equal(parsed(t, s), dids) {
		t.Errorf("%q, not %q", s, text)
	}
	if l, why := trace.Steps(dids); !slices.Equal(l, steps) || why != api.OK {
		t.Error(l, why, "not", steps)
	}
	if l := events(t, o, dids); !slices.Equal(l, all) {
		t.Error(l, "not", all)
	}
}

// Whatever an object has of variables and locks: what is at which address.
func TestAddresses(t *testing.T) {
	for _, x := range []struct {
		head string
		want string // what an exchange at 0, 1, 2, 3 is: a variable v, a lock l, or none, with its number
	}{
		{"0 0", "- - - - "}, {"1 0", "v0 - - - "}, {"0 1", "l0 - - - "}, {"0 3", "l0 l1 l2 - "}, {"2 1", "v0 v1 l0 - "}, {"1 3", "v0 l0 l1 l2 "}, {"4 0", "v0 v1 v2 v3 "},
	} {
		o := object(t, "object "+x.head+" 1\nmemory 0 0 0 0\n")
		got := ""
		for addr := range 4 {
			switch e := events(t, o, []api.Did{{Kind: api.DidSwap, Addr: addr, Put: 2}}); {
			case len(e) == 0:
				got += "- "
			case e[0] == api.Event{Kind: api.EventSwap, Thing: e[0].Thing, Put: 2}:
				got += fmt.Sprintf("v%d ", e[0].Thing)
			case e[0] == api.Event{Kind: api.EventLock, Thing: e[0].Thing}:
				got += fmt.Sprintf("l%d ", e[0].Thing)
			}
		}
		if got != x.want {
			t.Errorf("%s: %s, not %s", x.head, got, x.want)
		}
	}
}

// Lists of nothing.
func TestNothing(t *testing.T) {
	for _, o := range []api.Object{{Buffer: 1}, object(t, one)} {
		for _, l := range [][]api.Did{nil, {}} {
			s, why := trace.Steps(l)
			n, no := trace.Check(o, l)
			e, not := trace.Events(o, l)
			text, nor := trace.Print(l)
			if len(s) != 0 || n != 0 || len(e) != 0 || text != "" || why != api.OK || no != api.OK || not != api.OK || nor != api.OK {
				t.Error(s, n, e, text, why, no, not, nor)
			}
		}
		for _, l := range [][]api.Step{nil, {}, {run(5), drain(0), {}}} {
			if d := of(t, o, l); len(d) != 0 {
				t.Error(d)
			}
		}
	}
	if l, why, line := trace.Parse(""); len(l) != 0 || why != api.OK || line != 0 {
		t.Error(l, why, line)
	}
}

// wrong are Dids that are not right: each field of each kind, just beyond its edges, or used though it may not be.
func wrong() []api.Did {
	l := []api.Did{{}, {Core: 1}, {At: 1, Own: true}, {Kind: api.DidCount}, {Kind: api.DidCount + 1, Word: 5}, {Kind: math.MaxUint8}}
	access := " load store swap drain "
	word := access + "print "
	for _, x := range tolds() {
		kind := " " + strings.Fields(x.text)[2] + " "
		add := func(spoil func(d *api.Did), but string) {
			if d := x.did; !strings.Contains(but, kind) {
				spoil(&d)
				l = append(l, d)
			}
		}
		add(func(d *api.Did) { d.Kind = api.DidNothing }, "")
		for _, n := range []int{-1, math.MinInt, math.MaxInt} {
			add(func(d *api.Did) { d.Core = n }, "")
			add(func(d *api.Did) { d.At = n }, "")
			add(func(d *api.Did) { d.Addr = n }, "")
		}
		add(func(d *api.Did) { d.Core = api.MaxThreads }, "")
		add(func(d *api.Did) { d.At = api.MaxCode }, "")
		add(func(d *api.Did) { d.Addr = api.MaxMemory }, "")
		add(func(d *api.Did) { d.Addr = 1 }, access)
		add(func(d *api.Did) { d.Word = -1 }, word)
		add(func(d *api.Did) { d.Put = 1 }, " swap ")
		add(func(d *api.Did) { d.Own = true }, " load ")
	}
	return l
}

// 19.2 to 19.4: what is not right, first, last or in the midst; wrong objects come first.
func TestNotRight(t *testing.T) {
	o := object(t, one)
	bad := o
	bad.Buffer = 0
	run := of(t, o, []api.Step{run(0), run(0), run(0), drain(0)})
	for _, d := range wrong() {
		for at := range len(run) + 1 {
			l := slices.Insert(slices.Clone(run), at, d)
			if s, why := trace.Steps(l); s != nil || why != api.ErrDid {
				t.Error("Steps:", d, s, why)
			}
			if e, why := trace.Events(o, l); e != nil || why != api.ErrDid {
				t.Error("Events:", d, e, why)
			}
			if s, why := trace.Print(l); s != "" || why != api.ErrDid {
				t.Error("Print:", d, s, why)
			}
			if n, why := trace.Check(o, l); n != at || why != api.OK {
				t.Error("Check:", d, n, why, "not", at)
			}
			if e, why := trace.Events(bad, l); e != nil || why != api.ErrObject {
				t.Error("Events:", e, why)
			}
			if n, why := trace.Check(bad, l); n != 0 || why != api.ErrObject {
				t.Error("Check:", n, why)
			}
		}
	}
	for _, l := range [][]api.Step{nil, {{}}, make([]api.Step, api.MaxSteps+1)} {
		if d, why := trace.Of(bad, l); d != nil || why != api.ErrObject {
			t.Error("Of:", d, why)
		}
	}
}

// 19.2: the first Did that its step does not do there.
func TestCheck(t *testing.T) {
	o := object(t, "object 2 0 1\nmemory 7 0\ncore a\nset r0 1\nstore r0 0\nload r1 1\nswap r1 1\nfence\nprint r1\nhalt\ncore b\nload r0 0\nstore r0 1\nhalt\n")
	l := of(t, o, []api.Step{run(0), run(1), run(0), run(0), run(1), drain(1), drain(0), run(0), run(0), run(0), run(0), run(1)})
	want := "0 0 compute\n1 0 load 0 7\n0 1 store 0 1\n0 2 load 1 0\n1 1 store 1 7\n1 1 drain 1 7\n0 1 drain 0 1\n0 3 swap 1 7 0\n0 4 fence\n0 5 print 7\n0 6 halt\n1 2 halt\n"
	if s := printed(t, l); s != want {
		t.Fatalf("%q", s)
	}
	check := func(l []api.Did, want int) {
		t.Helper()
		if n, why := trace.Check(o, l); n != want || why != api.OK {
			t.Errorf("%v: %d, error %d, not %d", l, n, why, want)
		}
	}
	for n := range l {
		check(l[:n], n)
		for _, spoil := range []func(d *api.Did){
			func(d *api.Did) { d.Kind++ },
			func(d *api.Did) { d.Kind-- },
			func(d *api.Did) { d.Core ^= 1 },
			func(d *api.Did) { d.Core = 2 },
			func(d *api.Did) { d.At++ },
			func(d *api.Did) { d.Addr ^= 1 },
			func(d *api.Did) { d.Word++ },
			func(d *api.Did) { d.Put++ },
			func(d *api.Did) { d.Own = !d.Own },
		} {
			x := slices.Clone(l)
			spoil(&x[n])
			check(x, n)
		}
		if n > 0 { // twice: what the second step does is not what the first one did; but the last one has halted
			check(slices.Insert(slices.Clone(l), n, l[n-1]), n)
		}
	}
	check(l, len(l))
	check(append(slices.Clone(l), api.Did{Kind: api.DidHalt, At: 6}), len(l))
	check(append(slices.Clone(l), api.Did{}), len(l))
	// What must wait, or has nothing to drain, does nothing: that is not what the Did says.
	check(parsed(t, "0 0 compute\n0 1 store 0 1\n0 2 load 1 0\n0 3 swap 1 0 0\n"), 3)
	check(parsed(t, "0 0 compute\n0 1 drain 0 1\n"), 1)
}

// 19.4: lines that are no right Did's text, and which one is told.
func TestLines(t *testing.T) {
	const good = "0 0 compute\n7 16383 load 4095 -9223372036854775808 own\n"
	for _, s := range strings.Split("|0|0 0|0 0 |0 0  |0 0 nothing|0 0 Halt|0 0 halt | 0 0 halt|0  0 halt|0 0  halt|\t0 0 halt|0 0 halt\r|0 0 halt 0|0 0 compute 0|0 0 fence 0|"+
		"00 0 halt|0 00 halt|-0 0 halt|-1 0 halt|0 -1 halt|+1 0 halt|8 0 halt|0 16384 halt|x 0 halt|0 x halt|halt|halt 0 0|0 halt 0|99999999999999999999 0 halt|"+
		"0 0 load|0 0 load 0|0 0 load 0 |0 0 load 0 5 |0 0 load 0 5 mine|0 0 load 0 5 own |0 0 load 0 5 own own|0 0 load 0 own|0 0 load 0 5 own 0|0 0 load 0 5  own|0 0 load 0 5 Own|0 0 load 4096 0|0 0 load -1 0|0 0 load 01 0|"+
		"0 0 store 0 5 own|0 0 store 0|0 0 store 0 05|0 0 store 0 -0|0 0 store 0 +5|0 0 store 4096 0|0 0 store 0 5 6|0 0 drain 0|0 0 drain 0 5 own|0 0 drain 4096 5|0 0 drain 0 9223372036854775808|"+
		"0 0 swap 0 5|0 0 swap 0 5 6 7|0 0 swap 0 5 06|0 0 swap 0 5 6 own|0 0 swap 0 x 6|0 0 print|0 0 print |0 0 print 0 0|0 0 print -9223372036854775809|0 0 print 1.0|0 0 print --1|0 0 print 0x1|0 0 halt\x00|0 0 hält", "|") {
		for _, x := range []struct {
			text string
			want int
		}{{s + "\n", 1}, {s + "\n" + good, 1}, {good + s + "\n", 3}, {good + good + s + "\n" + s + "\n" + good, 5}} {
			if l, why, line := trace.Parse(x.text); l != nil || why != api.ErrLine || line != x.want {
				t.Errorf("Parse(%q): %v, error %d, line %d, not %d", x.text, l, why, line, x.want)
			}
		}
	}
	for s, want := range map[string]int{
		"0 0 compute": 1, "0 0 load 0 5 mine\n": 1, "8 0 halt\n": 1, // example 3
		good + "0 0 halt": 3, good + "\n": 3, "\n\n": 1, good + "x\n0 0 halt": 3, "0": 1, good + good[:len(good)-1]: 4,
	} {
		if l, why, line := trace.Parse(s); l != nil || why != api.ErrLine || line != want {
			t.Errorf("Parse(%q): %v, error %d, line %d, not %d", s, l, why, line, want)
		}
	}
	if l := parsed(t, good); len(l) != 2 || printed(t, l) != good {
		t.Error(l)
	}
}

// 19.4: the longest text, and one longer by a byte.
func TestLongest(t *testing.T) {
	// Lines of 9 bytes, and two that fill it up.
	l := slices.Repeat([]api.Did{{Kind: api.DidHalt}}, 466033)
	l[0], l[1] = api.Did{Kind: api.DidPrint, Word: 1}, api.Did{Kind: api.DidPrint, Word: 10}
	s := printed(t, l)
	if len(s) != api.MaxRun {
		t.Fatal(len(s))
	}
	if m := parsed(t, s); !slices.Equal(m, l) {
		t.Error(len(m))
	}
	if m, why, line := trace.Parse(s[:len(s)-1]); m != nil || why != api.ErrLine || line != len(l) {
		t.Error(len(m), why, line)
	}
	for _, s := range []string{s + "\n", s + "0 0 halt\n", strings.Repeat("x", api.MaxRun+1), strings.Repeat("\n", 2*api.MaxRun)} {
		if m, why, line := trace.Parse(s); m != nil || why != api.ErrLong || line != 0 {
			t.Error(len(m), why, line)
		}
	}
	if m, why, line := trace.Parse(strings.Repeat("\n", api.MaxRun)); m != nil || why != api.ErrLine || line != 1 {
		t.Error(len(m), why, line)
	}
	l[1].Word = 100
	if s, why := trace.Print(l); s != "" || why != api.ErrLong {
		t.Error(len(s), why)
	}
	for _, at := range []int{0, len(l) - 1} { // what is not right comes ahead of what is too long
		m := slices.Clone(l)
		m[at].Put = 1
		if s, why := trace.Print(m); s != "" || why != api.ErrDid {
			t.Error(len(s), why)
		}
	}
}

// 19.1, 19.2: as many steps, and Dids, as there may be, and one more; of Steps and Events there may be any number.
func TestMany(t *testing.T) {
	o := object(t, "object 1 0 1\nmemory 0\ncore a\nset r0 1\nadd r1 r1 r0\nstore r1 0\nload r2 0\njump 1\n")
	steps := make([]api.Step, api.MaxSteps)
	for i := range steps {
		steps[i] = run(0)
		if i%5 == 4 {
			steps[i] = drain(0)
		}
	}
	l := of(t, o, steps)
	if len(l) < api.MaxSteps*9/10 {
		t.Fatal(len(l))
	}
	again, why := trace.Steps(l)
	if why != api.OK || len(again) != len(l) {
		t.Error(len(again), why)
	}
	if n, why := trace.Check(o, l); n != len(l) || why != api.OK {
		t.Error(n, why)
	}
	if d, why := trace.Of(o, append(steps, run(0))); d != nil || why != api.ErrMany {
		t.Error(len(d), why)
	}
	idle := object(t, "object 0 0 1\nmemory\ncore a\njump 0\n")
	same := slices.Repeat([]api.Did{{Kind: api.DidCompute}}, api.MaxSteps)
	if n, why := trace.Check(idle, same); n != api.MaxSteps || why != api.OK {
		t.Error(n, why)
	}
	more := append(same, api.Did{})
	if n, why := trace.Check(idle, more); n != 0 || why != api.ErrMany {
		t.Error(n, why)
	}
	idle.Buffer = 17
	if n, why := trace.Check(idle, more); n != 0 || why != api.ErrObject {
		t.Error(n, why)
	}
	many := slices.Repeat([]api.Did{{Kind: api.DidHalt}}, api.MaxSteps+1)
	if s, why := trace.Steps(many); len(s) != len(many) || why != api.OK {
		t.Error(len(s), why)
	}
	if e := events(t, o, many); len(e) != len(many) || e[api.MaxSteps].At != api.MaxSteps {
		t.Error(len(e))
	}
}
