package explore_test

import (
	"fmt"
	"math"
	"slices"
	"strings"
	"testing"

	"stile/api"
	"stile/cfg"
	"stile/explore"
	"stile/parse"
	"stile/source"
)

const crossed = "shared x, y; thread a { x = 1; print y; } thread b { y = 1; print x; }"

func unit(t *testing.T, s string) api.Unit {
	t.Helper()
	p, why, f := parse.Parse(s)
	if why != api.OK {
		t.Fatalf("Parse(%.300q): error %d, %v", s, why, f)
	}
	u, why := cfg.Lower(p)
	if why != api.OK {
		t.Fatalf("Lower of %.300q: error %d", s, why)
	}
	return u
}

func ends(t *testing.T, u api.Unit, most int) []api.End {
	t.Helper()
	l, why := explore.Ends(u, most)
	if why != api.OK {
		t.Fatalf("Ends with %d: error %d", most, why)
	}
	return l
}

// shown writes ends: what was printed, a bar, memory, and a star, if not all have ended.
func shown(l ...api.End) string {
	s := ""
	for _, e := range l {
		for _, p := range e.Prints {
			s += fmt.Sprintf("(%d %d)", p.Thread, p.Word)
		}
		s += "|"
		for _, w := range e.Memory {
			s += fmt.Sprintf(" %d", w)
		}
		if !e.Ended {
			s += "*"
		}
		s += "; "
	}
	return s
}

// goes holds that a way goes, and comes to an end.
func goes(t *testing.T, u api.Unit, way []int, e api.End) {
	t.Helper()
	m, _ := source.New(u)
	if n, why := m.Run(way); n != len(way) || why != api.OK {
		t.Errorf("Run(%v): %d, error %d", way, n, why)
	}
	for i := range u.Graphs {
		if m.Can(i) {
			t.Errorf("behind %v thread %d can step", way, i)
		}
	}
	if got := (api.End{Prints: m.Prints(), Memory: m.Memory(), Ended: m.Ended()}); !explore.Same(got, e) {
		t.Errorf("%v comes to %s, not %s", way, shown(got), shown(e))
	}
}

// Example 1: the ends in order; ways to them; what is shown.
func TestCrossed(t *testing.T) {
	u := unit(t, crossed)
	l := ends(t, u, 1000)
	want := "(0 0)(1 1)| 1 1; (0 1)(1 0)| 1 1; (0 1)(1 1)| 1 1; (1 0)(0 1)| 1 1; (1 1)(0 0)| 1 1; (1 1)(0 1)| 1 1; "
	if got := shown(l...); got != want {
		t.Error(got)
	}
	ways := []string{"[0 0 0 1 1 1]", "[1 1 0 0 0 1]", "[0 1 0 0 1 1]", "[1 1 0 0 1 0]", "[0 0 1 1 1 0]", "[0 1 0 1 1 0]"}
	for i, e := range l {
		way, ok, why := explore.Way(u, 1000, e)
		if !ok || why != api.OK || fmt.Sprint(way) != ways[i] {
			t.Error(shown(e), way, ok, why, "not", ways[i])
		}
		goes(t, u, way, e)
	}
	for s, want := range map[string]bool{
		"": true, "00": true, "01": true, "10": true, "11": true, "0011": true, "0110": true, "1100": true,
		"0010": false, "1000": false, "0001": false, "02": false, "20": false, "001111": false, "-": false,
	} {
		var l []api.Print
		for i := 0; i+1 < len(s); i += 2 {
			l = append(l, api.Print{Thread: int(s[i] - '0'), Word: int64(s[i+1] - '0')})
		}
		if s == "-" {
			l = []api.Print{{Thread: -1}}
		}
		if ok, why := explore.Shows(u, 1000, l); ok != want || why != api.OK {
			t.Errorf("Shows %q: %v, error %d", s, ok, why)
		}
	}
}

// Examples 2 and 3, and other small programs: how many situations, which ends.
func TestSmall(t *testing.T) {
	for s, want := range map[string]string{
		"": "1: |; ",
		"lock l; thread a { lock l { lock l { } } }":                                                              "2: |*; ",
		"thread a { while (1) { } }":                                                                              "1: ",
		"thread a { }":                                                                                            "1: |; ",
		"shared x = 7; thread a { } thread b { skip; }":                                                           "1: | 7; ",
		"thread a { print 4; }":                                                                                   "2: (0 4)|; ",
		"thread a { print 4; } thread b { print 4; }":                                                             "5: (0 4)(1 4)|; (1 4)(0 4)|; ",
		"thread a { local r; r = 1; r = 2; } thread b { local r; r = 1; }":                                        "6: |; ",
		"shared x; thread a { x = 1; } thread b { x = 2; }":                                                       "5: | 1; | 2; ",
		"shared x; thread a { x = 1; x = 0; }":                                                                    "3: | 0; ",
		"thread a { local r; r = 1; r = 0; while (1) { r = r; } }":                                                "4: ",
		"shared x; thread a { while (!x) { } } thread b { x = 1; }":                                               "14: | 1; ",
		"lock l, m; thread a { lock l { lock m { } } } thread b { lock m { lock l { } } }":                        "19: |*; |; ",
		"shared x; lock l; thread a { lock l { x = x + 1; } } thread b { lock l { x = x + 1; } }":                 "21: | 2; ",
		"shared x; lock l; thread a { lock l { x = 1; lock l { } } } thread b { lock l { } x = 2; }":              "11: | 1*; | 2*; ",
		"lock l; thread a { lock l { while (1) { } } } thread b { lock l { print 1; } }":                          "6: ",
		"lock l; thread a { lock l { lock l { } } } thread b { lock l { lock l { } } } thread c { print 0 - 3; }": "9: (2 -3)|*; ",
		"shared x; lock l; thread a { lock l { if (x) { lock l { } } } } thread b { x = 1; print 5; }":            "19: (1 5)| 1*; (1 5)| 1; ",
	} {
		u := unit(t, s)
		n, why := explore.Count(u, 1000)
		if got := fmt.Sprintf("%d: %s", n, shown(ends(t, u, 1000)...)); got != want || why != api.OK {
			t.Errorf("%s\n%q, error %d, not\n%q", s, got, why, want)
		}
	}
}

// wide is a program of n threads, each of which has so many situations, whatever the others do.
func wide(n, each int) string {
	s := ""
	for i := range n {
		s += "thread " + string(rune('a'+i)) + " { local r; "
		for k := range each - 1 {
			s += fmt.Sprintf("r = %d; ", k%2)
		}
		s += "} "
	}
	return s
}

// refused holds that all calls have an error, and answer nothing beside it.
func refused(t *testing.T, u api.Unit, most int, want api.Errno) {
	t.Helper()
	if n, why := explore.Count(u, most); n != 0 || why != want {
		t.Errorf("Count with %d: %d, error %d, not %d", most, n, why, want)
	}
	if l, why := explore.Ends(u, most); len(l) != 0 || why != want {
		t.Errorf("Ends with %d: %s, error %d, not %d", most, shown(l...), why, want)
	}
	for _, e := range []api.End{{}, {Ended: true}, {Memory: make([]int64, len(u.Shared)), Ended: true}} {
		if l, ok, why := explore.Way(u, most, e); len(l) != 0 || ok || why != want {
			t.Errorf("Way with %d: %v, %v, error %d, not %d", most, l, ok, why, want)
		}
	}
	for _, l := range [][]api.Print{nil, {}, {{Word: 1}}} {
		if ok, why := explore.Shows(u, most, l); ok || why != want {
			t.Errorf("Shows with %d: %v, error %d, not %d", most, ok, why, want)
		}
	}
}

// 8.1, 8.2: which error comes first; what most may be.
func TestRefused(t *testing.T) {
	for _, most := range []int{0, -1, math.MinInt, api.MaxStates + 1, math.MaxInt} {
		refused(t, unit(t, crossed), most, api.ErrRange)
		refused(t, api.Unit{}, most, api.ErrRange)
		refused(t, unit(t, "thread a { while (1) { print 1; } }"), most, api.ErrRange)
	}
	for _, most := range []int{0, -1, 1, 1000, api.MaxStates, api.MaxStates + 1} {
		u := unit(t, crossed)
		u.Graphs[1].Nodes[0].Next = 4
		refused(t, u, most, api.ErrGraph)
		u = unit(t, crossed)
		u.Shared[1].Name = "x"
		refused(t, u, most, api.ErrGraph)
	}
	for _, most := range []int{1, 2, 500, api.MaxStates} {
		refused(t, unit(t, "thread a { while (1) { print 1; } }"), most, api.ErrMany)
		refused(t, unit(t, "thread a { local r; while (1) { r = r + 1; } }"), most, api.ErrMany)
	}
}

// 8.1: as many as most are not too many; with any greater most the answer is the same (8.6).
func TestMost(t *testing.T) {
	for s, want := range map[string]int{
		"":                                       1,
		"thread a { while (1) { } }":             1,
		"thread a { skip; }":                     1,
		"thread a { print 1; print 2; print 3;}": 4,
		wide(3, 5):                               125,
		wide(4, 16):                              api.MaxStates,
		wide(8, 4):                               api.MaxStates,
		wide(2, 256):                             api.MaxStates,
		wide(1, 4096):                            4096,
	} {
		u := unit(t, s)
		n, why := explore.Count(u, api.MaxStates)
		if n != want || why != api.OK {
			t.Errorf("%.80s: %d, error %d, not %d", s, n, why, want)
		}
		if want == 1 {
			refused(t, u, 0, api.ErrRange)
		} else if n, why := explore.Count(u, want-1); n != 0 || why != api.ErrMany {
			t.Errorf("%.80s with %d: %d, error %d", s, want-1, n, why)
		}
		all := shown(ends(t, u, want)...)
		for _, most := range []int{want + 1, 2 * want, api.MaxStates} {
			if most > api.MaxStates || want == api.MaxStates {
				continue
			}
			if n, why := explore.Count(u, most); n != want || why != api.OK || shown(ends(t, u, most)...) != all {
				t.Errorf("%.80s with %d: %d, error %d, not %d", s, most, n, why, want)
			}
		}
	}
	refused(t, unit(t, crossed), 20, api.ErrMany)
	refused(t, unit(t, wide(1, 2)+strings.Replace(wide(4, 16), "thread a", "thread z", 1)), api.MaxStates, api.ErrMany)
}

// 8.2: an end that there is not: in each of its parts.
func TestNoWay(t *testing.T) {
	u := unit(t, crossed)
	for _, e := range ends(t, u, 1000) {
		for _, spoil := range []func(e *api.End){
			func(e *api.End) { e.Ended = false },
			func(e *api.End) { e.Memory = e.Memory[:1] },
			func(e *api.End) { e.Memory = append(e.Memory, 1) },
			func(e *api.End) { e.Memory[1] = 0 },
			func(e *api.End) { e.Prints = e.Prints[:1] },
			func(e *api.End) { e.Prints = append(e.Prints, api.Print{}) },
			func(e *api.End) { e.Prints[1].Word = 2 },
			func(e *api.End) { e.Prints[1].Thread ^= 1 },
			func(e *api.End) { *e = api.End{} },
		} {
			no := api.End{Prints: slices.Clone(e.Prints), Memory: slices.Clone(e.Memory), Ended: e.Ended}
			spoil(&no)
			if way, ok, why := explore.Way(u, 1000, no); len(way) != 0 || ok || why != api.OK {
				t.Error(shown(no), way, ok, why)
			}
		}
	}
	for _, e := range []api.End{{Ended: true}, {Ended: true, Prints: []api.Print{}, Memory: []int64{}}} {
		if way, ok, why := explore.Way(api.Unit{}, 1, e); len(way) != 0 || !ok || why != api.OK {
			t.Error(way, ok, why)
		}
	}
	if way, ok, why := explore.Way(api.Unit{}, 1, api.End{}); len(way) != 0 || ok || why != api.OK {
		t.Error(way, ok, why)
	}
}

// 8.3: ends in order, each ahead of the next one; nil and empty lists are alike.
func TestCompare(t *testing.T) {
	p := func(l ...int64) []api.Print {
		var prints []api.Print
		for i := 0; i < len(l); i += 2 {
			prints = append(prints, api.Print{Thread: int(l[i]), Word: l[i+1]})
		}
		return prints
	}
	m := func(l ...int64) []int64 { return l }
	l := []api.End{
		{}, {Ended: true},
		{Memory: m(math.MinInt64)}, {Memory: m(-1), Ended: true}, {Memory: m(0)}, {Memory: m(0), Ended: true}, {Memory: m(0, -5)}, {Memory: m(0, 0)}, {Memory: m(1)},
		{Prints: p(math.MinInt64, 0)}, {Prints: p(-1, 7)}, {Prints: p(0, math.MinInt64)}, {Prints: p(0, -1)},
		{Prints: p(0, 0)}, {Prints: p(0, 0), Ended: true}, {Prints: p(0, 0), Memory: m(3)}, {Prints: p(0, 0), Memory: m(3), Ended: true}, {Prints: p(0, 0), Memory: m(4)},
		{Prints: p(0, 0, 0, -1), Memory: m(9)}, {Prints: p(0, 0, 0, 0)}, {Prints: p(0, 0, 1, -9)}, {Prints: p(0, 1)}, {Prints: p(0, math.MaxInt64)},
		{Prints: p(1, math.MinInt64)}, {Prints: p(1, 0)}, {Prints: p(2, -1)}, {Prints: p(math.MaxInt64, 0)},
	}
	for i, a := range l {
		for j, b := range l {
			want := 0
			if i < j {
				want = -1
			} else if i > j {
				want = 1
			}
			if got := explore.Compare(a, b); got != want || explore.Same(a, b) != (i == j) {
				t.Errorf("%s against %s: %d, not %d; Same: %v", shown(a), shown(b), got, want, explore.Same(a, b))
			}
		}
	}
	empty := api.End{Prints: []api.Print{}, Memory: []int64{}}
	if explore.Compare(empty, api.End{}) != 0 || !explore.Same(api.End{}, empty) {
		t.Error("nil and empty lists are alike")
	}
}

// Much that is printed, and large threads: all is told, and in good time.
func TestLarge(t *testing.T) {
	const rounds = 5000
	u := unit(t, fmt.Sprintf("thread a { local r; while (r < %d) { r = r + 1; print r; } }", rounds))
	if n, why := explore.Count(u, api.MaxStates); n != 5*rounds+3 || why != api.OK {
		t.Error(n, why)
	}
	l := ends(t, u, api.MaxStates)
	if len(l) != 1 || len(l[0].Prints) != rounds || l[0].Prints[rounds-1].Word != rounds || !l[0].Ended {
		t.Error(len(l))
	}
	way, ok, why := explore.Way(u, api.MaxStates, l[0])
	if len(way) != 5*rounds+2 || !ok || why != api.OK {
		t.Error(len(way), ok, why)
	}
	for _, n := range []int{0, 1, rounds / 2, rounds} {
		if ok, why := explore.Shows(u, api.MaxStates, l[0].Prints[:n]); !ok || why != api.OK {
			t.Error(n, ok, why)
		}
	}
	for _, no := range [][]api.Print{l[0].Prints[1:], append(slices.Clone(l[0].Prints), api.Print{Word: rounds + 1})} {
		if ok, why := explore.Shows(u, api.MaxStates, no); ok || why != api.OK {
			t.Error(len(no), ok, why)
		}
	}
	// Slots that nobody touches, in all threads.
	u = unit(t, wide(8, 3))
	for i := range u.Graphs {
		u.Graphs[i].Slots = api.MaxSlots
	}
	if n, why := explore.Count(u, api.MaxStates); n != 6561 || why != api.OK {
		t.Error(n, why)
	}
}
