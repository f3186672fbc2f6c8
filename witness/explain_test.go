package witness_test

import (
	"math"
	"slices"
	"strings"
	"testing"

	"stile/api"
	"stile/witness"
)

// 21.3: a thread whose core has halted, with nothing that waits, comes to its end; others stay where they are.
func TestEnds(t *testing.T) {
	u := unit(t, "shared p, q, x; thread a { p = 1; x = 2; p = 3; } thread b { local r; q = 4; x = 5; r = 6; q = r; } thread c { }")
	classes := classesOf(t, u)
	o := generated(t, u, true, 16)
	for _, y := range []struct{ name, steps, want string }{
		{"none has halted", "000000aa", "[0 0] [] [1 0 2] false"},
		{"with what waits", "0000000", "[] [] [0 0 0] false"},
		{"with one that waits", "0000000aa", "[0 0] [] [1 0 2] false"},
		{"with nothing that waits", "0000000aaa", "[0 0 0] [] [3 0 2] false"},
		{"one that has nothing to do", "2", "[] [] [0 0 0] false"},
		{"two as they halted", "1111111111111110000000aaabbb", "[0 0 1 1 1 1 0] [] [3 6 5] true"},
		{"two the other way round", "0000000111111111111111aaabbb", "[0 0 1 1 0 1 1] [] [3 6 5] true"},
		{"of which one waits", "0000000111111111111111aaabb", "[0 0 1 1 0] [] [3 4 5] false"},
		{"of which the other one waits", "0000000111111111111111aabbb", "[0 0 1 1 1 1] [] [1 6 5] false"},
		{"all", "0000000111111111111111aaabbb2", "[0 0 1 1 0 1 1] [] [3 6 5] true"},
	} {
		l := done(t, o, y.steps)
		s, why := witness.Explain(u, o, classes, l, 3)
		t.Log(y.name)
		told(t, s, why, y.want)
		agrees(t, u, o, l, true)
	}
	// What is told of an end is as much as one Advance: so many actions, and no visible one ahead of it.
	l := done(t, o, "0000000111111111111111aaabbb2")
	s, why := witness.Explain(u, o, classes, l, 2)
	told(t, s, why, "[0 0 1 1 0 1 1] [] [3 6 5] true")
	s, why = witness.Explain(u, o, classes, l, 1)
	untold(t, s, why, api.ErrStory)
}

// By hand: Dids that no machine did, of an object of so many cores, variables and a lock, and a unit that fits it.
func handmade(t *testing.T, u api.Unit) api.Object {
	t.Helper()
	o := api.Object{Buffer: 1, Shared: len(u.Shared), Locks: len(u.Locks), Memory: make([]int64, len(u.Shared)+len(u.Locks)+1)}
	for thing, d := range u.Shared {
		o.Memory[thing] = d.Word
	}
	for _, g := range u.Graphs {
		o.Cores = append(o.Cores, api.Core{Name: g.Name, Code: []api.Instr{{Kind: api.InstrHalt}}})
	}
	return o
}

// 21.3: whose stores and drains count, and what happens at the end.
func TestEndsByHand(t *testing.T) {
	u := unit(t, "shared x, p; lock l; thread a { local r; x = 1; r = 2; r = 3; } thread b { lock l { x = 4; } p = 5; } thread c { while (1) { print p; } }")
	all := classes(api.ClassRacy, api.ClassPrivate)
	o := handmade(t, u)
	for _, y := range []struct{ name, run, want string }{
		{"a store that waits", "0 0 store 2 5\n0 0 drain 0 1\n0 0 halt\n0 0 store 3 5\n", "[0] [] [1 0] false"},
		{"a drain too many", "0 0 drain 0 1\n0 0 halt\n", "[0] [] [1 0] false"},
		{"as many, of whatever", "0 0 drain 0 1\n0 0 halt\n0 0 store 3 9\n", "[0 0 0] [] [1 0] false"},
		{"as many, in another core", "0 0 drain 0 1\n1 0 store 0 1\n0 0 halt\n", "[0] [] [1 0] false"},
		{"all ahead of the halt", "0 0 store 0 1\n0 0 drain 0 1\n0 0 halt\n", "[0 0 0] [] [1 0] false"},
		{"all behind the halt", "0 0 halt\n0 0 store 0 1\n0 0 drain 0 1\n", "[0 0 0] [] [1 0] false"},
		{"halted twice", "0 0 halt\n0 0 store 0 1\n0 0 halt\n0 0 drain 0 1\n0 0 halt\n", "[0 0 0] [] [1 0] false"},
		{"halted twice, the other one between", "0 0 halt\n0 0 store 0 1\n1 0 swap 2 0 1\n1 0 store 0 4\n1 0 store 2 0\n1 0 drain 0 4\n1 0 drain 2 0\n1 0 halt\n0 0 drain 0 1\n0 0 halt\n", "[1 1 1 0 0 0 1] [] [1 5] false"},
		{"one that is not there", "7 0 halt\n3 0 halt\n", "[] [] [0 0] false"},
	} {
		s, why := witness.Explain(u, o, all, dids(t, y.run), 9)
		t.Log(y.name)
		told(t, s, why, y.want)
	}
	for _, y := range []struct{ name, run string }{
		{"not at its end", "0 0 halt\n"},
		{"not at its end, the lock taken", "1 0 halt\n"},
		{"it never ends", "2 0 halt\n"},
		{"one that is not there", "3 0 print 0\n"},
		{"one that can't be there", "7 0 swap 2 0 1\n"},
	} {
		s, why := witness.Explain(u, o, all, dids(t, y.run), 9)
		t.Log(y.name)
		untold(t, s, why, api.ErrStory)
		if is, why := witness.Agrees(u, o, all, dids(t, y.run), 9); is || why != api.ErrStory {
			t.Error(is, why)
		}
	}
	own := unit(t, "lock l; thread a { print 0; lock l { } } thread b { lock l { } }")
	s, why := witness.Explain(own, handmade(t, own), nil, dids(t, "0 0 print 0\n1 0 swap 0 0 1\n0 0 halt\n"), 9) // it waits at the end
	untold(t, s, why, api.ErrStory)
}

// 21.3: errors, in turn: the Order's, the unit's, the classes', most's, how many threads there are; then those by the way.
func TestExplainErrors(t *testing.T) {
	u := unit(t, "shared x; thread a { x = 1; } thread b { }")
	o := handmade(t, u)
	racy := classes(api.ClassRacy)
	bad := unit(t, "shared x; thread a { }")
	bad.Graphs[0].Nodes = nil
	more := unit(t, "shared x, y; thread a { }")
	one := unit(t, "shared x; thread a { x = 1; }")
	three := unit(t, "shared x; thread a { x = 1; } thread b { } thread c { }")
	run := dids(t, "5 0 print 3\n")
	for _, y := range []struct {
		u    api.Unit
		l    []api.Did
		most int
		want api.Errno
	}{
		{bad, run, 0, api.ErrGraph}, {bad, nil, 1, api.ErrGraph},
		{more, run, 0, api.ErrClass}, {more, nil, 1, api.ErrClass}, {api.Unit{}, nil, 1, api.ErrClass},
		{one, run, 0, api.ErrRange}, {u, nil, 0, api.ErrRange}, {u, nil, -1, api.ErrRange}, {u, run, api.MaxSteps + 1, api.ErrRange}, {three, nil, math.MaxInt, api.ErrRange}, {u, nil, math.MinInt, api.ErrRange},
		{one, nil, 1, api.ErrStory}, {three, nil, 1, api.ErrStory}, {three, dids(t, "0 0 drain 0 1\n"), 1, api.ErrStory}, {u, run, 1, api.ErrStory},
		{u, nil, 1, api.OK}, {u, dids(t, "0 0 drain 0 1\n"), api.MaxSteps, api.OK},
	} {
		s, why := witness.Explain(y.u, o, racy, y.l, y.most)
		is, no := witness.Agrees(y.u, o, racy, y.l, y.most)
		if y.want == api.OK {
			if why != api.OK || no != api.OK || !is {
				t.Error(s, why, is, no)
			}
			continue
		}
		untold(t, s, why, y.want)
		if is || no != y.want {
			t.Errorf("Agrees: %v, error %d, not %d", is, no, y.want)
		}
	}
}

// 21.3: too many steps, by the way or at the end: thread by thread.
func TestExplainMany(t *testing.T) {
	quiet := func(times int) string { return strings.Repeat("r = r + 1; ", times/2) }
	u := unit(t, "thread a { local r; while (1) { "+quiet(30)+"print 3; } } thread b { local r; "+quiet(16)+"} thread c { local r; "+quiet(32)+"}")
	o := handmade(t, u)
	prints := slices.Repeat(dids(t, "0 0 print 3\n"), api.MaxSteps/32-1) // each 32 steps: that many are left
	for _, y := range []struct {
		more string
		want api.Errno
	}{
		{"", api.OK}, {"1 0 halt\n", api.OK}, {"2 0 halt\n", api.OK}, {"1 0 halt\n1 0 halt\n", api.OK}, {"0 0 print 3\n", api.OK},
		{"1 0 halt\n2 0 halt\n", api.ErrMany}, {"2 0 halt\n1 0 halt\n", api.ErrMany}, {"0 0 print 3\n1 0 halt\n", api.ErrMany}, {"0 0 print 3\n0 0 print 3\n", api.ErrMany},
		{"0 0 print 3\n0 0 halt\n", api.ErrMany}, // it would not have ended, either
		{"0 0 halt\n", api.ErrStory}, {"0 0 halt\n1 0 halt\n", api.ErrStory}, {"1 0 halt\n0 0 halt\n", api.ErrMany}, {"2 0 halt\n0 0 halt\n1 0 halt\n", api.ErrMany},
	} {
		l := append(slices.Clone(prints), dids(t, y.more)...)
		s, why := witness.Explain(u, o, nil, l, 32)
		if why != y.want || why != api.OK && s.Steps != nil {
			t.Errorf("%q: %d steps, error %d, not %d", y.more, len(s.Steps), why, y.want)
		}
		if is, why := witness.Agrees(u, o, nil, l, 32); why != y.want || is != (why == api.OK) {
			t.Errorf("%q: %v, error %d, not %d", y.more, is, why, y.want)
		}
	}
}

// 21.4: what the prints, and in the end what the variables have, must be.
func TestAgrees(t *testing.T) {
	u := unit(t, "shared x = 3, p, q = 7; thread a { local r; p = 1; r = swap(x, 2); print r; } thread b { x = 4; print 5; }")
	const run = "0 0 store 1 1\n0 1 drain 1 1\n0 2 swap 0 3 2\n0 3 print 3\n0 4 halt\n1 0 store 0 4\n1 0 drain 0 4\n1 1 print 5\n"
	const halt = "1 2 halt\n"
	for _, y := range []struct {
		name, run string
		first     string // what q has in the object
		want      bool
	}{
		{"nothing", "", "7", true},
		{"not all have halted", run, "7", true},
		{"all have halted", run + halt, "7", true},
		{"a word that the thread does not print", "0 2 swap 0 3 2\n0 3 print 4\n", "7", false},
		{"prints the other way round", "1 0 drain 0 4\n1 1 print 5\n0 2 swap 0 4 2\n0 3 print 4\n", "7", true},
		{"prints of each other", "1 0 drain 0 4\n1 1 print 4\n0 2 swap 0 4 2\n0 3 print 5\n", "7", false},
		{"a variable that was another one at first", run, "8", true},
		{"so in the end", run + halt, "8", false},
		{"but written by the way", run + halt + "0 0 store 2 7\n0 0 drain 2 7\n", "8", true},
		{"a swap of which nothing else tells", run + halt + "0 0 swap 2 7 6\n", "7", false},
		{"a swap, and back", run + halt + "0 0 swap 2 7 6\n1 0 swap 2 6 7\n", "8", true},
		{"a store, and a swap behind it", run + halt + "0 0 swap 1 1 9\n0 0 store 1 1\n0 0 drain 1 1\n", "7", true},
		{"a swap, and a store behind it", run + halt + "0 0 store 1 1\n0 0 drain 1 1\n0 0 swap 1 1 9\n", "7", false},
		{"another word, by another core", run + halt + "7 0 drain 1 9\n", "7", false},
		{"another word, but one store waits", run + halt + "0 0 store 1 9\n0 0 drain 1 9\n0 0 store 1 9\n", "7", true},
		{"another word, but one store waits of the other", run + halt + "0 0 store 1 9\n0 0 drain 1 9\n1 0 store 2 9\n", "7", true},
		{"another word of what is no variable", run + halt + "0 0 store 3 9\n0 0 drain 3 9\n0 0 swap 3 9 8\n", "7", true},
	} {
		o := handmade(t, u)
		o.Memory[2] = int64(y.first[0] - '0')
		t.Log(y.name)
		agrees(t, u, o, dids(t, y.run), y.want)
	}
	// Of no cores all have halted.
	u = unit(t, "shared x = 3;")
	o := handmade(t, u)
	agrees(t, u, o, nil, true)
	o.Memory[0] = 4
	agrees(t, u, o, nil, false)
	agrees(t, u, o, dids(t, "0 0 drain 0 3\n"), true)
	// A print too few of the run can't be: each is in Order. One of a core that is no thread is what the source can't do.
	if is, why := witness.Agrees(u, o, classesOf(t, u), dids(t, "0 0 print 3\n"), 9); is || why != api.ErrStory {
		t.Error(is, why)
	}
}
