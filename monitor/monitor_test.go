package monitor_test

import (
	"fmt"
	"math"
	"slices"
	"testing"

	"stile/api"
	"stile/cfg"
	"stile/gen"
	"stile/lockset"
	"stile/monitor"
	"stile/parse"
	"stile/regs"
	"stile/target"
	"stile/trace"
)

func unit(t *testing.T, s string) api.Unit {
	t.Helper()
	p, why, f := parse.Parse(s)
	if why != api.OK {
		t.Fatalf("Parse(%q): error %d, %v", s, why, f)
	}
	u, why := cfg.Lower(p)
	if why != api.OK {
		t.Fatalf("Lower of %q: error %d", s, why)
	}
	return u
}

func classesOf(t *testing.T, u api.Unit) []api.Class {
	t.Helper()
	l, why := lockset.Classes(u)
	if why != api.OK {
		t.Fatal("Classes: error", why)
	}
	return l
}

// made is a unit's object, with its slots in registers and without fences.
func made(t *testing.T, u api.Unit, buffer int) api.Object {
	t.Helper()
	places, why := regs.Assign(u, true)
	if why != api.OK {
		t.Fatal("Assign: error", why)
	}
	o, why := gen.Generate(u, make([][]int, len(u.Graphs)), places, buffer)
	if why != api.OK {
		t.Fatal("Generate: error", why)
	}
	return o
}

func object(t *testing.T, s string) api.Object {
	t.Helper()
	o, why, at := target.Parse(s)
	if why != api.OK {
		t.Fatalf("Parse(%q): error %d at %d", s, why, at)
	}
	return o
}

// dids is the run of a text.
func dids(t *testing.T, s string) []api.Did {
	t.Helper()
	l, why, line := trace.Parse(s)
	if why != api.OK {
		t.Fatalf("Parse(%q): error %d, line %d", s, why, line)
	}
	return l
}

// done is what steps do: of each byte of their text a digit is a core that runs, a letter (a for core 0) one whose buffer drains.
func done(t *testing.T, o api.Object, s string) []api.Did {
	t.Helper()
	var steps []api.Step
	for _, b := range []byte(s) {
		if b >= 'a' {
			steps = append(steps, api.Step{Kind: api.StepDrain, Core: int(b - 'a')})
		} else {
			steps = append(steps, api.Step{Kind: api.StepRun, Core: int(b - '0')})
		}
	}
	l, why := trace.Of(o, steps)
	if why != api.OK {
		t.Fatal("Of: error", why)
	}
	return l
}

func blocks(t *testing.T, o api.Object, l []api.Did) []api.Block {
	t.Helper()
	b, why := monitor.Blocks(o, l)
	if why != api.OK {
		t.Fatal("Blocks: error", why)
	}
	return b
}

func hands(t *testing.T, o api.Object, classes []api.Class, l []api.Did) []api.Hand {
	t.Helper()
	h, why := monitor.Hands(o, classes, l)
	if why != api.OK {
		t.Fatal("Hands: error", why)
	}
	return h
}

func stale(t *testing.T, o api.Object, classes []api.Class, l []api.Did) int {
	t.Helper()
	at, why := monitor.Stale(o, classes, l)
	if why != api.OK {
		t.Fatal("Stale: error", why)
	}
	return at
}

// told is what a run comes to, as text: its blocks, who is with each lock, the first that is taken though it is not free.
func told(t *testing.T, o api.Object, l []api.Did) string {
	t.Helper()
	holders, why := monitor.Holders(o, l)
	at, no := monitor.Crowd(o, l)
	if why != api.OK || no != api.OK {
		t.Fatal("Holders: error", why, "Crowd: error", no)
	}
	return fmt.Sprint(blocks(t, o, l), holders, at)
}

func under(lock int) api.Class { return api.Class{Kind: api.ClassGuarded, Lock: lock} }

// guarded is an object of two variables, of which the first one is 4 at first, and two locks.
const guarded = "object 2 2 4\nmemory 4 0 0 0 0\ncore a\nhalt\ncore b\nhalt\n"

// Examples 1 and 2: core 0 takes the lock, and gives it back by a store that waits; then core 1 has it.
func TestExamples(t *testing.T) {
	u := unit(t, "shared g; lock l; thread a { lock l { g = 5; } } thread b { local r, s; lock l { r = 2; s = g; } }")
	classes, o := classesOf(t, u), made(t, u, 2)
	l := done(t, o, "0000000aa")
	if got := told(t, o, l); got != "[{0 0 1 6 8}] [-1] -1" || l[4] != (api.Did{Kind: api.DidStore, At: 5, Word: 5}) {
		t.Error(got, l)
	}
	for n, want := range []string{"[] [-1] -1", "[] [-1] -1", "[{0 0 1 -1 -1}] [0] -1", "[{0 0 1 -1 -1}] [0] -1", "[{0 0 1 -1 -1}] [0] -1", "[{0 0 1 -1 -1}] [0] -1", "[{0 0 1 -1 -1}] [0] -1", "[{0 0 1 6 -1}] [0] -1", "[{0 0 1 6 -1}] [0] -1"} {
		if got := told(t, o, l[:n]); got != want {
			t.Errorf("the first %d: %s, not %s", n, got, want)
		}
	}
	early := done(t, o, "0000000a1111a11111") // an exchange that finds 1 takes nothing
	if got := told(t, o, early); got != "[{0 0 1 6 12} {0 1 14 -1 -1}] [1] -1" {
		t.Error(got, early)
	}
	l = done(t, o, "0000000aa1111111")
	if got := told(t, o, l); got != "[{0 0 1 6 8} {0 1 10 -1 -1}] [1] -1" {
		t.Error(got)
	}
	if h := hands(t, o, classes, l); !slices.Equal(h, []api.Hand{{Core: 1, At: 13, Read: 5, Last: 5}}) || l[13].Kind != api.DidLoad {
		t.Error(h, l)
	}
	if at := stale(t, o, classes, l); at != -1 {
		t.Error(at)
	}
}

// Example 3: the lock's store has come to memory ahead of the variable's.
func TestNewestFirst(t *testing.T) {
	o := object(t, "object 1 1 2\nmemory 3 0\ncore a\nhalt\ncore b\nhalt\n")
	l := dids(t, "0 1 swap 1 0 1\n0 4 store 0 5\n0 6 store 1 0\n0 6 drain 1 0\n1 1 swap 1 0 1\n1 4 load 0 3\n0 4 drain 0 5\n1 4 load 0 5\n")
	if got := told(t, o, l); got != "[{0 0 0 2 3} {0 1 4 -1 -1}] [1] -1" {
		t.Error(got)
	}
	if at := stale(t, o, []api.Class{under(0)}, l); at != 5 {
		t.Error(at)
	}
	if h := hands(t, o, []api.Class{under(0)}, l); !slices.Equal(h, []api.Hand{{Core: 1, At: 5, Read: 3, Last: 5}}) {
		t.Error(h)
	}
}

// 23.1: what takes, leaves and gives back, and what does not.
func TestBlocks(t *testing.T) {
	o := object(t, guarded)
	for _, x := range []struct{ run, want string }{
		{"", "[] [-1 -1] -1"},
		{"0 0 swap 2 0 1\n", "[{0 0 0 -1 -1}] [0 -1] -1"},
		{"7 0 swap 3 0 -5\n", "[{1 7 0 -1 -1}] [-1 7] -1"},
		{"0 0 swap 2 1 1\n", "[] [-1 -1] -1"},
		{"0 0 swap 2 0 0\n", "[] [-1 -1] -1"},
		{"0 0 swap 1 0 1\n0 0 swap 4 0 1\n", "[] [-1 -1] -1"},
		{"0 0 store 2 0\n0 0 drain 2 0\n0 0 swap 2 0 1\n", "[{0 0 2 -1 -1}] [0 -1] -1"},
		{"0 0 swap 2 0 1\n0 0 store 2 0\n0 0 store 2 0\n0 0 drain 2 0\n0 0 drain 2 0\n", "[{0 0 0 1 3}] [-1 -1] -1"},
		{"0 0 swap 2 0 1\n0 0 store 2 1\n0 0 drain 2 1\n", "[{0 0 0 -1 -1}] [0 -1] -1"},
		{"0 0 swap 2 0 1\n0 0 store 3 0\n0 0 drain 3 0\n", "[{0 0 0 -1 -1}] [0 -1] -1"},
		{"0 0 swap 2 0 1\n1 0 store 2 0\n1 0 drain 2 0\n", "[{0 0 0 -1 -1}] [0 -1] -1"},
		{"0 0 swap 2 0 1\n0 0 store 0 0\n0 0 store 1 0\n0 0 store 4 0\n0 0 drain 1 0\n0 0 drain 4 0\n", "[{0 0 0 -1 -1}] [0 -1] -1"},
		{"0 0 swap 2 0 1\n0 0 swap 2 1 0\n0 0 load 2 0\n", "[{0 0 0 -1 -1}] [0 -1] -1"}, // given back by no store
		{"0 0 swap 2 0 1\n0 0 drain 2 0\n", "[{0 0 0 -1 1}] [-1 -1] -1"},                // of a store ahead of it
		{"0 0 swap 2 0 1\n0 0 drain 2 0\n0 0 store 2 0\n", "[{0 0 0 2 1}] [-1 -1] -1"},
		{"0 0 swap 2 0 1\n0 0 swap 3 0 1\n0 0 store 3 0\n0 0 store 2 0\n0 0 drain 3 0\n0 0 drain 2 0\n", "[{0 0 0 3 5} {1 0 1 2 4}] [-1 -1] -1"},
		{"0 0 swap 2 0 1\n1 0 swap 3 0 1\n1 0 store 3 0\n0 0 store 2 0\n0 0 drain 2 0\n", "[{0 0 0 3 4} {1 1 1 2 -1}] [-1 1] -1"},
		{"0 0 swap 2 0 1\n1 0 swap 2 0 1\n", "[{0 0 0 -1 -1} {0 1 1 -1 -1}] [1 -1] 1"},
		{"0 0 swap 2 0 1\n1 0 swap 2 0 1\n1 0 drain 2 0\n", "[{0 0 0 -1 -1} {0 1 1 -1 2}] [-1 -1] 1"}, // the one with the greatest From
		{"0 0 swap 2 0 1\n1 0 swap 2 0 1\n0 0 store 2 0\n0 0 drain 2 0\n", "[{0 0 0 2 3} {0 1 1 -1 -1}] [1 -1] 1"},
		{"0 0 swap 2 0 1\n0 0 swap 2 0 1\n0 0 store 2 0\n0 0 drain 2 0\n", "[{0 0 0 2 3} {0 0 1 2 3}] [-1 -1] 1"},
		{"0 0 swap 2 0 1\n0 0 drain 2 0\n0 0 swap 2 0 1\n0 0 drain 2 0\n0 0 swap 2 0 1\n", "[{0 0 0 -1 1} {0 0 2 -1 3} {0 0 4 -1 -1}] [0 -1] -1"},
		{"0 0 swap 2 0 1\n0 0 drain 2 0\n0 0 swap 2 0 1\n3 0 swap 3 0 1\n3 0 drain 3 0\n4 0 swap 2 0 1\n5 0 swap 2 0 1\n", "[{0 0 0 -1 1} {0 0 2 -1 -1} {1 3 3 -1 4} {0 4 5 -1 -1} {0 5 6 -1 -1}] [5 -1] 5"},
	} {
		if got := told(t, o, dids(t, x.run)); got != x.want {
			t.Errorf("%q: %s, not %s", x.run, got, x.want)
		}
	}
}

// Whatever an object has of variables and locks; one that has no locks has no holders.
func TestLocks(t *testing.T) {
	for _, x := range []struct{ head, want string }{
		{"0 0", "[] [] -1"}, {"0 1", "[{0 0 0 1 2}] [-1] -1"}, {"0 3", "[{0 0 0 1 2}] [-1 -1 -1] -1"}, {"1 2", "[] [-1 -1] -1"}, {"3 0", "[] [] -1"},
	} {
		o := object(t, "object "+x.head+" 1\nmemory 0 0 0 0\n")
		if got := told(t, o, dids(t, "0 0 swap 0 0 1\n0 0 store 0 0\n0 0 drain 0 0\n")); got != x.want {
			t.Errorf("%s: %s, not %s", x.head, got, x.want)
		}
	}
}

// 23.2: which touch of a variable counts in a block, and what was written last ahead of it.
func TestHands(t *testing.T) {
	o := object(t, guarded)
	both := []api.Class{under(0), under(0)}
	for _, x := range []struct {
		classes []api.Class
		run     string
		want    string
		stale   int
	}{
		{both, "", "[]", -1},
		{both, "0 0 load 0 4\n0 0 swap 2 0 1\n", "[]", -1},
		{both, "0 0 swap 2 0 1\n0 0 load 0 4\n0 0 load 0 4\n", "[{0 0 1 4 4}]", -1},
		{both, "0 0 swap 2 0 1\n0 0 load 0 4 own\n", "[{0 0 1 4 4}]", -1},
		{both, "0 0 swap 2 0 1\n0 0 load 0 3\n0 0 load 0 2\n", "[{0 0 1 3 4}]", 1},
		{both, "0 0 swap 2 0 1\n0 0 store 0 3\n0 0 load 0 3 own\n", "[]", -1}, // it writes first
		{both, "0 0 swap 2 0 1\n0 0 store 0 3\n0 0 load 0 4\n", "[]", 2},
		{both, "0 0 swap 2 0 1\n0 0 swap 0 4 7\n0 0 swap 0 7 8\n0 0 load 0 8\n", "[{0 0 1 4 4}]", -1}, // an exchange reads, and writes its Put
		{both, "0 0 swap 2 0 1\n0 0 swap 0 4 7\n0 0 load 0 4\n", "[{0 0 1 4 4}]", 2},
		{both, "0 0 swap 2 0 1\n0 0 swap 0 5 7\n", "[{0 0 1 5 4}]", 1},
		{both, "0 0 swap 2 0 1\n0 0 drain 0 9\n0 0 load 0 4\n", "[{0 0 2 4 4}]", -1}, // what goes to memory is no write, and no touch
		{both, "0 0 swap 2 0 1\n0 0 drain 0 9\n0 0 load 0 9\n", "[{0 0 2 9 4}]", 2},
		{both, "0 0 swap 2 0 1\n0 0 load 1 0\n0 0 load 0 4\n", "[{0 0 2 4 4} {1 0 1 0 0}]", -1}, // by number
		{both, "0 0 swap 2 0 1\n1 0 load 0 4\n", "[]", -1},                                      // another core's
		{both, "0 0 swap 2 0 1\n1 0 store 0 5\n0 0 load 0 5\n", "[{0 0 2 5 5}]", -1},            // written by whichever core, in whichever buffer
		{both, "0 0 swap 2 0 1\n0 0 store 2 0\n0 0 load 0 4\n", "[{0 0 2 4 4}]", -1},            // left, but not given back
		{both, "0 0 swap 2 0 1\n0 0 drain 2 0\n0 0 load 0 4\n", "[]", -1},
		{both, "0 0 swap 2 0 1\n0 0 drain 2 0\n0 0 load 0 5\n", "[]", 2}, // Stale asks of no block
		{both, "0 0 swap 2 0 1\n0 0 load 0 4\n0 0 drain 2 0\n0 0 load 0 4\n0 0 load 1 0\n", "[{0 0 1 4 4}]", -1},
		{both, "0 0 swap 2 0 1\n1 0 drain 2 0\n0 0 drain 3 0\n0 0 load 0 4\n", "[{0 0 3 4 4}]", -1},
		{both, "0 0 swap 2 0 1\n0 0 load 2 1\n0 0 load 3 1\n0 0 load 4 1\n0 0 load 4095 1\n", "[]", -1}, // no variables
		{both, "0 0 swap 3 0 1\n0 0 load 0 4\n", "[]", -1},
		{both, "0 0 swap 2 0 1\n0 0 swap 2 0 1\n0 0 load 0 4\n", "[{0 0 2 4 4} {0 0 2 4 4}]", -1},
		{both, "0 0 swap 2 0 1\n0 0 load 0 4\n0 0 swap 2 0 1\n0 0 store 0 4\n", "[{0 0 1 4 4}]", -1},
		{both, "0 0 swap 2 0 1\n0 0 store 0 1\n0 0 swap 2 0 1\n0 0 load 0 1\n", "[{0 0 3 1 1}]", -1},
		{both, "1 0 swap 2 0 1\n0 0 swap 2 0 1\n0 0 load 0 4\n1 0 load 0 4\n", "[{0 1 3 4 4} {0 0 2 4 4}]", -1}, // block by block
		{[]api.Class{under(0), under(1)}, "0 0 swap 2 0 1\n0 0 swap 3 0 1\n0 0 load 1 0\n0 0 load 0 4\n", "[{0 0 3 4 4} {1 0 2 0 0}]", -1},
		{[]api.Class{under(1), under(0)}, "0 0 swap 2 0 1\n0 0 swap 3 0 1\n0 0 load 1 0\n0 0 load 0 4\n", "[{1 0 2 0 0} {0 0 3 4 4}]", -1},
		{[]api.Class{{Kind: api.ClassRacy}, {Kind: api.ClassPrivate}}, "0 0 swap 2 0 1\n0 0 load 0 9\n0 0 load 1 9\n", "[]", -1},
		{[]api.Class{{}, under(0)}, "0 0 swap 2 0 1\n0 0 load 0 9\n0 0 load 1 9\n", "[{1 0 2 9 0}]", 2},
		{[]api.Class{{Kind: api.ClassCount}, {Kind: 255, Thread: -4}}, "0 0 swap 2 0 1\n0 0 load 0 9\n0 0 load 1 9\n", "[]", -1},
		{[]api.Class{under(-1), under(math.MaxInt)}, "0 0 swap 2 0 1\n0 0 load 0 4\n0 0 load 1 9\n", "[]", 2}, // guarded by a lock that there is not
		{[]api.Class{{Kind: api.ClassGuarded, Thread: 5}, under(2)}, "0 0 swap 2 0 1\n0 0 load 0 4\n0 0 load 1 0\n", "[{0 0 1 4 4}]", -1},
	} {
		l := dids(t, x.run)
		if got := fmt.Sprint(hands(t, o, x.classes, l)); got != x.want {
			t.Errorf("Hands of %v, %q: %s, not %s", x.classes, x.run, got, x.want)
		}
		if at := stale(t, o, x.classes, l); at != x.stale {
			t.Errorf("Stale of %v, %q: %d, not %d", x.classes, x.run, at, x.stale)
		}
	}
}

// 23.1, 23.2: errors in their order; with each of them all else is zero.
func TestErrors(t *testing.T) {
	o := object(t, guarded)
	wrong := object(t, guarded)
	wrong.Buffer = api.MaxBuffer + 1
	fine, classes := dids(t, "0 0 swap 2 0 1\n1 0 swap 2 0 1\n0 0 load 0 7\n"), []api.Class{under(0), under(1)}
	bad := append(slices.Clone(fine), api.Did{Kind: api.DidCount})
	for _, x := range []struct {
		o           api.Object
		classes     []api.Class
		l           []api.Did
		want, class api.Errno
	}{
		{o, classes, fine, api.OK, api.OK},
		{wrong, nil, bad, api.ErrObject, api.ErrObject},
		{wrong, classes, fine, api.ErrObject, api.ErrObject},
		{api.Object{}, nil, nil, api.ErrObject, api.ErrObject},
		{o, nil, bad, api.ErrDid, api.ErrDid},
		{o, classes, bad, api.ErrDid, api.ErrDid},
		{o, classes, []api.Did{{}}, api.ErrDid, api.ErrDid},
		{o, classes, []api.Did{{Kind: api.DidHalt, Core: api.MaxThreads}}, api.ErrDid, api.ErrDid},
		{o, classes, []api.Did{{Kind: api.DidLoad, Addr: -1}}, api.ErrDid, api.ErrDid},
		{o, classes, []api.Did{{Kind: api.DidStore, Own: true}}, api.ErrDid, api.ErrDid},
		{o, nil, fine, api.OK, api.ErrClass},
		{o, classes[:1], fine, api.OK, api.ErrClass},
		{o, append(slices.Clone(classes), api.Class{}), fine, api.OK, api.ErrClass},
	} {
		b, w1 := monitor.Blocks(x.o, x.l)
		h, w2 := monitor.Holders(x.o, x.l)
		c, w3 := monitor.Crowd(x.o, x.l)
		if w1 != x.want || w2 != x.want || w3 != x.want || x.want != api.OK && (b != nil || h != nil || c != 0) {
			t.Error(b, w1, h, w2, c, w3, "not error", x.want)
		}
		d, w4 := monitor.Hands(x.o, x.classes, x.l)
		s, w5 := monitor.Stale(x.o, x.classes, x.l)
		if w4 != x.class || w5 != x.class || x.class != api.OK && (d != nil || s != 0) {
			t.Error(d, w4, s, w5, "not error", x.class)
		}
	}
	free := object(t, "object 0 1 1\nmemory 0\n")
	if h := hands(t, free, nil, dids(t, "0 0 swap 0 0 1\n0 0 load 0 1\n")); len(h) != 0 {
		t.Error(h)
	}
	if at := stale(t, free, []api.Class{}, nil); at != -1 {
		t.Error(at)
	}
}

// Much at one time: many blocks that are open, many variables, many Dids.
func TestLarge(t *testing.T) {
	o := api.Object{Memory: make([]int64, api.MaxShared+api.MaxLocks), Shared: api.MaxShared, Locks: api.MaxLocks, Buffer: 1, Cores: []api.Core{{Name: "a", Code: []api.Instr{{Kind: api.InstrHalt}}}}}
	classes := make([]api.Class, api.MaxShared)
	for thing := range classes {
		classes[thing] = under(thing % api.MaxLocks)
	}
	var l []api.Did
	const times = 20000
	for n := range times {
		l = append(l, api.Did{Kind: api.DidSwap, Core: n % 8, Addr: api.MaxShared + n/8%api.MaxLocks, Put: 1})
	}
	for n := range 8 * api.MaxShared {
		l = append(l, api.Did{Kind: api.DidLoad, Core: n % 8, Addr: n / 8})
	}
	for n := range 8 * api.MaxLocks {
		l = append(l, api.Did{Kind: api.DidStore, Core: n % 8, Addr: api.MaxShared + n/8}, api.Did{Kind: api.DidDrain, Core: n % 8, Addr: api.MaxShared + n/8})
	}
	b := blocks(t, o, l)
	if len(b) != times {
		t.Fatal(len(b))
	}
	for n, x := range b {
		left := times + 8*api.MaxShared + 2*(x.Lock*8+x.Core)
		if x != (api.Block{Lock: n / 8 % api.MaxLocks, Core: n % 8, From: n, Left: left, To: left + 1}) {
			t.Fatal(n, x)
		}
	}
	h := hands(t, o, classes, l)
	if len(h) != times*4 || h[0] != (api.Hand{At: times}) || h[5] != (api.Hand{Thing: api.MaxLocks, Core: 1, At: times + 8*api.MaxLocks + 1}) {
		t.Error(len(h), h[:6])
	}
	if at, why := monitor.Crowd(o, l); at != 1 || why != api.OK {
		t.Error(at, why)
	}
	long := slices.Repeat(dids(t, "0 0 swap 64 0 1\n0 0 load 0 0\n0 0 store 64 0\n0 0 drain 64 0\n"), 1<<18)
	if h := hands(t, o, classes, long); len(h) != 1<<18 || h[1<<17] != (api.Hand{At: 1<<19 + 1}) {
		t.Error(len(h))
	}
	if at := stale(t, o, classes, long); at != -1 {
		t.Error(at)
	}
	if got := len(blocks(t, o, long)); got != 1<<18 {
		t.Error(got)
	}
}
