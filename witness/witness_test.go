package witness_test

import (
	"fmt"
	"math"
	"slices"
	"testing"

	"stile/api"
	"stile/cfg"
	"stile/fences"
	"stile/gen"
	"stile/lockset"
	"stile/parse"
	"stile/regs"
	"stile/target"
	"stile/trace"
	"stile/witness"
)

func unit(t *testing.T, s string) api.Unit {
	t.Helper()
	p, why, f := parse.Parse(s)
	if why != api.OK {
		t.Fatalf("Parse(%q): error %d, %v", s, why, f)
	}
	u, why := cfg.Lower(p)
	if why != api.OK {
		t.Fatalf("Lower of %q: error %d", s, why)
	}
	return u
}

func classesOf(t *testing.T, u api.Unit) []api.Class {
	t.Helper()
	l, why := lockset.Classes(u)
	if why != api.OK {
		t.Fatal("Classes: error", why)
	}
	return l
}

// generated is a unit's object, with fences that are needed or with none.
func generated(t *testing.T, u api.Unit, fenced bool, buffer int) api.Object {
	t.Helper()
	where := make([][]int, len(u.Graphs))
	if fenced {
		where, _ = fences.Place(u, true)
	}
	places, _ := regs.Assign(u, true)
	o, why := gen.Generate(u, where, places, buffer)
	if why != api.OK {
		t.Fatal("Generate: error", why)
	}
	return o
}

func object(t *testing.T, s string) api.Object {
	t.Helper()
	o, why, at := target.Parse(s)
	if why != api.OK {
		t.Fatalf("Parse(%q): error %d at %d", s, why, at)
	}
	return o
}

// dids is the run of a text.
func dids(t *testing.T, s string) []api.Did {
	t.Helper()
	l, why, line := trace.Parse(s)
	if why != api.OK {
		t.Fatalf("Parse(%q): error %d, line %d", s, why, line)
	}
	return l
}

// done is what steps do: of each byte of their text a digit is a core that runs, a letter (a for core 0) one whose buffer drains.
func done(t *testing.T, o api.Object, s string) []api.Did {
	t.Helper()
	var steps []api.Step
	for _, b := range []byte(s) {
		if b >= 'a' {
			steps = append(steps, api.Step{Kind: api.StepDrain, Core: int(b - 'a')})
		} else {
			steps = append(steps, api.Step{Kind: api.StepRun, Core: int(b - '0')})
		}
	}
	l, why := trace.Of(o, steps)
	if why != api.OK {
		t.Fatal("Of: error", why)
	}
	return l
}

func order(t *testing.T, o api.Object, classes []api.Class, l []api.Did) []int {
	t.Helper()
	threads, why := witness.Order(o, classes, l)
	if why != api.OK {
		t.Fatal("Order: error", why)
	}
	return threads
}

// told holds that a story is one: its steps, its prints and its memory, and whether all have ended.
func told(t *testing.T, s api.Story, why api.Errno, want string) {
	t.Helper()
	if got := fmt.Sprint(s.Steps, s.Prints, s.Memory, s.Ended); got != want || why != api.OK {
		t.Errorf("%s, error %d, not %s", got, why, want)
	}
}

func untold(t *testing.T, s api.Story, why, want api.Errno) {
	t.Helper()
	if s.Steps != nil || s.Prints != nil || s.Memory != nil || s.Ended || why != want {
		t.Errorf("%.300s, error %d, not %d", fmt.Sprint(s), why, want)
	}
}

func agrees(t *testing.T, u api.Unit, o api.Object, l []api.Did, want bool) {
	t.Helper()
	if is, why := witness.Agrees(u, o, classesOf(t, u), l, 1000); is != want || why != api.OK {
		t.Errorf("Agrees: %v, error %d, not %v", is, why, want)
	}
}

const crossed = "shared x, y; thread a { x = 1; print y; } thread b { y = 1; print x; }"

// Example 1: store buffering with fences.
func TestFenced(t *testing.T) {
	u := unit(t, crossed)
	classes := classesOf(t, u)
	o := generated(t, u, true, 2) // set, store, fence, load, print, halt
	for _, y := range []struct {
		steps string
		order []int
		want  string
	}{
		{"", nil, "[] [] [0 0] false"},
		{"0011", nil, "[] [] [0 0] false"},
		{"0011a", []int{0}, "[0] [] [1 0] false"},
		{"0011b", []int{1}, "[1] [] [0 1] false"},
		{"0011ba", []int{1, 0}, "[1 0] [] [1 1] false"},
		{"00a000011b1111", []int{0, 0, 0, 1, 1, 1}, "[0 0 0 1 1 1] [{0 0} {1 1}] [1 1] true"},
		{"0011ab00001111", []int{0, 1, 0, 0, 1, 1}, "[0 1 0 0 1 1] [{0 1} {1 1}] [1 1] true"},
		{"00a0011b11001011", []int{0, 0, 1, 1, 0, 1}, "[0 0 1 1 0 1] [{0 0} {1 1}] [1 1] true"},
	} {
		l := done(t, o, y.steps)
		if got := order(t, o, classes, l); !slices.Equal(got, y.order) {
			t.Errorf("%s: Order %v, not %v", y.steps, got, y.order)
		}
		s, why := witness.Explain(u, o, classes, l, 1)
		told(t, s, why, y.want)
		agrees(t, u, o, l, true)
		s, why = witness.Follow(u, classes, y.order, 1)
		told(t, s, why, y.want)
	}
}

// Example 2: without fences; either the prints come to something else, or the source can't do it.
func TestBare(t *testing.T) {
	u := unit(t, crossed)
	classes := classesOf(t, u)
	o := generated(t, u, false, 2)
	l := done(t, o, "000111ab0101")
	if got := order(t, o, classes, l); !slices.Equal(got, []int{0, 1, 0, 1, 0, 1}) {
		t.Error(got)
	}
	s, why := witness.Explain(u, o, classes, l, 9)
	told(t, s, why, "[0 1 0 1 0 1] [{0 1} {1 1}] [1 1] true")
	agrees(t, u, o, l, false)
	// The object of another unit, of which a thread does more than this one's.
	o = generated(t, unit(t, "shared x, y; thread a { x = 1; print y; print y; } thread b { y = 1; print x; }"), false, 2)
	l = done(t, o, "000a0000")
	s, why = witness.Explain(u, o, classes, l, 9)
	untold(t, s, why, api.ErrStory)
	if is, why := witness.Agrees(u, o, classes, l, 9); is || why != api.ErrStory {
		t.Error(is, why)
	}
}

// Example 3: a core that waits for a lock is not in Order for that; nor for what is guarded.
func TestLocked(t *testing.T) {
	u := unit(t, "shared g; lock l; thread a { lock l { g = g + 1; } } thread b { lock l { g = g + 1; } print 7; }")
	classes := classesOf(t, u)
	o := generated(t, u, true, 4) // set, swap, zero, jump to these; load, set, add, store, set, store; of core 1 set, print; halt
	turns := "000" + "111111111111" + "000000" + "1111" + "a1111" + "a111111111"
	l := done(t, o, turns)
	if got := order(t, o, classes, l); !slices.Equal(got, []int{0, 0, 1}) {
		t.Error(got)
	}
	s, why := witness.Explain(u, o, classes, l, 9)
	told(t, s, why, "[0 0 0 0 0 1] [] [1] false")
	agrees(t, u, o, l, true)
	l = done(t, o, turns+"bb1110")
	s, why = witness.Explain(u, o, classes, l, 9)
	told(t, s, why, "[0 0 0 0 0 1 1 1 1 1 1] [{1 7}] [2] true")
	agrees(t, u, o, l, true)
}

func classes(kinds ...api.ClassKind) []api.Class {
	var l []api.Class
	for _, k := range kinds {
		l = append(l, api.Class{Kind: k})
	}
	return l
}

// 21.1: which events are visible: of each kind, of variables of each class, of locks and other words.
func TestOrder(t *testing.T) {
	o := object(t, "object 6 2 1\nmemory 0 0 0 0 0 0 0 0 0\n")
	all := classes(api.ClassRacy, api.ClassUnused, api.ClassPrivate, api.ClassGuarded, api.ClassCount, 255)
	var text string
	var threads []int
	for at, line := range []string{
		"load 0 5", "load 0 5 own", "drain 0 5", "drain 0 0", "swap 0 5 6", "swap 0 0 0", "swap 0 0 1", // the racy one
		"print 0", "print 5", "swap 6 0 1", "swap 7 0 -1", "drain 6 0", "drain 7 0",
		"store 0 5", "store 0 0", "store 6 0", "store 8 0", "compute", "fence", "halt", // from here on: none
		"swap 6 1 1", "swap 6 0 0", "swap 7 1 0", "drain 6 1", "load 6 0", "load 7 1", "load 8 0", "load 8 0 own", "swap 8 0 1", "drain 8 0",
		"load 1 5", "drain 1 0", "swap 1 0 1", "load 2 5", "load 2 5 own", "drain 2 5", "swap 2 0 1", "load 3 5", "drain 3 5", "swap 3 0 1",
		"load 4 5", "drain 4 5", "swap 4 0 1", "load 5 5", "drain 5 5", "swap 5 0 1",
	} {
		for core := range api.MaxThreads {
			l := dids(t, fmt.Sprintln(core, 3, line))
			var alone []int
			if at < 13 {
				alone = []int{core}
			}
			if got := order(t, o, all, l); !slices.Equal(got, alone) {
				t.Errorf("%s of core %d: %v", line, core, got)
			}
			text, threads = text+fmt.Sprintln(core, 3, line), append(threads, alone...)
		}
	}
	if got := order(t, o, all, dids(t, text)); !slices.Equal(got, threads) {
		t.Errorf("%v, not %v", got, threads)
	}
	// Of Thread and Lock of a class nothing hangs.
	all[0].Thread, all[0].Lock, all[2].Thread = 99, -5, -1
	if got := order(t, o, all, dids(t, text)); !slices.Equal(got, threads) {
		t.Errorf("%v, not %v", got, threads)
	}
	if got := order(t, api.Object{Buffer: 1}, nil, nil); len(got) != 0 {
		t.Error(got)
	}
}

// 21.1: errors, in turn.
func TestOrderErrors(t *testing.T) {
	o := object(t, "object 2 0 1\nmemory 0 0\ncore a\nhalt\n")
	bad := o
	bad.Buffer = 0
	two := classes(api.ClassRacy, api.ClassRacy)
	wrong := []api.Did{{Kind: api.DidHalt}, {Kind: api.DidHalt, Word: 1}}
	for _, y := range []struct {
		o       api.Object
		classes []api.Class
		l       []api.Did
		want    api.Errno
	}{
		{bad, two, wrong, api.ErrObject}, {bad, nil, wrong, api.ErrObject}, {bad, two, nil, api.ErrObject}, {api.Object{}, nil, nil, api.ErrObject},
		{o, nil, wrong, api.ErrDid}, {o, two, wrong, api.ErrDid}, {o, two, []api.Did{{}}, api.ErrDid}, {o, two, []api.Did{{Kind: api.DidPrint, Core: 8}}, api.ErrDid},
		{o, nil, nil, api.ErrClass}, {o, two[:1], wrong[:1], api.ErrClass}, {o, append(two, api.Class{}), nil, api.ErrClass},
	} {
		if l, why := witness.Order(y.o, y.classes, y.l); l != nil || why != y.want {
			t.Errorf("Order: %v, error %d, not %d", l, why, y.want)
		}
		s, why := witness.Explain(api.Unit{Graphs: make([]api.Graph, 1)}, y.o, y.classes, y.l, 0)
		untold(t, s, why, y.want)
		if is, why := witness.Agrees(api.Unit{Graphs: make([]api.Graph, 1)}, y.o, y.classes, y.l, 0); is || why != y.want {
			t.Errorf("Agrees: %v, error %d, not %d", is, why, y.want)
		}
	}
}

// 21.2: Advance by Advance: quiet actions, a visible one, the end.
func TestFollow(t *testing.T) {
	u := unit(t, "shared x = 4, p, g; lock l; thread a { local r; p = 5; r = p + 1; x = r; p = 6; lock l { g = 1; } p = 7; r = 0; } thread b { skip; } thread c { lock l { g = 2; print x; } }")
	for _, y := range []struct {
		order []int
		most  int
		want  string
	}{
		{nil, 1, "[] [] [4 0 0] false"},
		{[]int{}, api.MaxSteps, "[] [] [4 0 0] false"},
		{[]int{0}, 5, "[0 0 0 0 0] [] [6 5 0] false"},
		{[]int{2, 2, 2, 2}, 3, "[2 2 2 2 2] [{2 4}] [4 0 2] false"},
		{[]int{0, 2, 2, 2, 2, 0, 0, 0}, 7, "[0 0 0 0 0 2 2 2 2 2 0 0 0 0 0 0] [{2 6}] [6 7 1] true"},
		{[]int{2, 2, 0, 2, 2, 0, 0, 0}, 7, "[2 2 2 0 0 0 0 0 2 2 0 0 0 0 0 0] [{2 4}] [6 7 1] true"},
	} {
		s, why := witness.Follow(u, classesOf(t, u), y.order, y.most)
		told(t, s, why, y.want)
	}
	// With other classes other actions are visible; with none all threads go on to their ends.
	u = unit(t, crossed)
	s, why := witness.Follow(u, make([]api.Class, 2), []int{1, 0}, 3)
	told(t, s, why, "[1 1 1 0 0 0] [{1 0} {0 1}] [1 1] true")
	s, why = witness.Follow(u, classes(api.ClassRacy, api.ClassUnused), []int{0, 0, 1}, 3)
	told(t, s, why, "[0 0 0 1 1] [{0 0}] [1 1] false")
	s, why = witness.Follow(api.Unit{}, nil, nil, 1)
	told(t, s, why, "[] [] [] true")
	s, why = witness.Follow(unit(t, "shared x = 3; thread a { } thread b { skip; }"), classes(0), nil, 1)
	told(t, s, why, "[] [] [3] true")
}

// 21.2: errors, in turn.
func TestFollowErrors(t *testing.T) {
	u := unit(t, "shared x, p; lock l; thread a { p = 1; x = 2; lock l { print x; } } thread b { lock l { } } thread c { }")
	all := classes(api.ClassRacy, api.ClassPrivate)
	bad := u
	bad.Graphs = []api.Graph{{}}
	refused := func(u api.Unit, classes []api.Class, order []int, most int, want api.Errno) {
		t.Helper()
		s, why := witness.Follow(u, classes, order, most)
		untold(t, s, why, want)
	}
	for _, most := range []int{0, -1, math.MinInt, api.MaxSteps + 1, math.MaxInt} {
		refused(bad, nil, []int{9}, most, api.ErrGraph)
		refused(u, nil, []int{9}, most, api.ErrClass)
		refused(u, all, []int{9}, most, api.ErrRange)
		refused(u, all, nil, most, api.ErrRange)
	}
	for _, l := range [][]api.Class{nil, all[:1], append(all, api.Class{}), make([]api.Class, 1000)} {
		refused(bad, l, nil, 1, api.ErrGraph)
		refused(u, l, []int{9}, 1, api.ErrClass)
		refused(u, l, nil, 1, api.ErrClass)
	}
	for _, l := range [][]int{
		{-1}, {3}, {math.MinInt}, {math.MaxInt}, {0, 3}, {0, 0, -1, 0}, // no thread
		{2}, {1, 1, 1}, {0, 0, 0, 0, 0, 0}, // it has ended
		{1, 0, 0}, {0, 0, 1}, {0, 0, 0, 1}, {0, 0, 0, 0, 1}, // it waits
	} {
		refused(u, all, l, 100, api.ErrStory)
	}
	refused(u, all, []int{0}, 1, api.ErrStory) // two actions
	refused(u, all, []int{1, 1, 0}, 1, api.ErrStory)
	s, why := witness.Follow(u, all, []int{1, 1, 0}, 2)
	told(t, s, why, "[1 1 0 0] [] [2 1] false")
	own := unit(t, "lock l; thread a { lock l { lock l { } } }")
	refused(own, nil, []int{0, 0}, 9, api.ErrStory)
	quiet := unit(t, "thread a { while (1) { } }")
	refused(quiet, nil, []int{0}, api.MaxSteps, api.ErrStory)
}

// 21.2: as many steps as there may be, and one more: Advance by Advance, one that is not OK ahead of the number.
func TestMany(t *testing.T) {
	u := unit(t, "shared x; thread a { while (1) { print 3; } } thread b { x = 1; } thread c { }")
	l := make([]int, api.MaxSteps/2) // each a branch and a print
	s, why := witness.Follow(u, classes(api.ClassRacy), l, 2)
	if why != api.OK || len(s.Steps) != api.MaxSteps || len(s.Prints) != len(l) || s.Ended {
		t.Error(len(s.Steps), len(s.Prints), why)
	}
	for _, y := range []struct {
		more []int
		want api.Errno
	}{{[]int{0}, api.ErrMany}, {[]int{1}, api.ErrMany}, {[]int{0, 9}, api.ErrMany}, {[]int{9}, api.ErrStory}, {[]int{2}, api.ErrStory}, {[]int{-1, 0}, api.ErrStory}} {
		s, why := witness.Follow(u, classes(api.ClassRacy), append(slices.Clone(l), y.more...), 2)
		untold(t, s, why, y.want)
	}
	s, why = witness.Follow(u, classes(api.ClassRacy), append([]int{1}, l...), 2) // the last one has one step too many
	untold(t, s, why, api.ErrMany)
	s, why = witness.Follow(u, classes(api.ClassRacy), append([]int{1}, l[1:]...), 2)
	if why != api.OK || len(s.Steps) != api.MaxSteps-1 {
		t.Error(len(s.Steps), why)
	}
	s, why = witness.Follow(u, classes(api.ClassRacy), append([]int{1}, l...), 1)
	untold(t, s, why, api.ErrStory)
	s, why = witness.Follow(u, classes(api.ClassRacy), make([]int, 1<<24), 2)
	untold(t, s, why, api.ErrMany)
}
