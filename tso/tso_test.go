package tso_test

import (
	"fmt"
	"math"
	"slices"
	"strings"
	"testing"

	"stile/api"
	"stile/explore"
	"stile/target"
	"stile/tso"
	"stile/vm"
)

// object is the right one of a text, in which a bar stands for a line's end.
func object(t *testing.T, s string) api.Object {
	t.Helper()
	o, why, at := target.Parse(strings.ReplaceAll(s, "|", "\n"))
	if why != api.OK {
		t.Fatalf("Parse(%q): error %d at %d", s, why, at)
	}
	return o
}

func run(core int) api.Step { return api.Step{Kind: api.StepRun, Core: core} }

func drain(core int) api.Step { return api.Step{Kind: api.StepDrain, Core: core} }

// steps are those of a text: r or d, and a core.
func steps(s string) []api.Step {
	var l []api.Step
	for _, word := range strings.Fields(s) {
		x := run(int(word[1] - '0'))
		if word[0] == 'd' {
			x.Kind = api.StepDrain
		}
		l = append(l, x)
	}
	return l
}

// shown writes ends: what was printed, a bar, memory.
func shown(l ...api.End) string {
	s := ""
	for _, e := range l {
		for _, p := range e.Prints {
			s += fmt.Sprintf("(%d %d)", p.Thread, p.Word)
		}
		s += "|"
		for _, w := range e.Memory {
			s += fmt.Sprintf(" %d", w)
		}
		if !e.Ended {
			s += "*"
		}
		s += "; "
	}
	return s
}

func count(t *testing.T, o api.Object, most int) int {
	t.Helper()
	n, why := tso.Count(o, most)
	if why != api.OK {
		t.Fatalf("Count with %d: error %d", most, why)
	}
	return n
}

// told are the ends that a call tells.
func told(t *testing.T, call func(api.Object, int) ([]api.End, api.Errno), o api.Object, most int) []api.End {
	t.Helper()
	l, why := call(o, most)
	if why != api.OK {
		t.Fatalf("with %d: error %d", most, why)
	}
	return l
}

// goes holds that a way goes, by steps that do something, and comes to an end.
func goes(t *testing.T, o api.Object, way []api.Step, e api.End) {
	t.Helper()
	m, _ := vm.New(o)
	for _, s := range way {
		if !slices.Contains(m.Ready(), s) {
			t.Fatal(s, "is not ready on", way)
		}
		m.Step(s)
	}
	if got := (api.End{Prints: m.Prints(), Memory: m.Memory()[:o.Shared], Ended: m.Ended()}); !explore.Same(got, e) {
		t.Errorf("%v comes to %s, not %s", way, shown(got), shown(e))
	}
}

// Chapter 18's example 1, and the same with a fence behind each store.
const (
	buffering = "object 2 0 1|memory 0 0|core A|set r0 1|store r0 0|load r1 1|print r1|halt|core B|set r0 1|store r0 1|load r1 0|print r1|halt|"
	fenced    = "object 2 0 1|memory 0 0|core A|set r0 1|store r0 0|fence|load r1 1|print r1|halt|core B|set r0 1|store r0 1|fence|load r1 0|print r1|halt|"
)

// Example 1: what is plain, and what is not; ways; what is shown.
func TestBuffering(t *testing.T) {
	const plain = "(0 0)(1 1)| 1 1; (0 1)(1 0)| 1 1; (0 1)(1 1)| 1 1; (1 0)(0 1)| 1 1; (1 1)(0 0)| 1 1; (1 1)(0 1)| 1 1; "
	o := object(t, buffering)
	if s := shown(told(t, tso.Plain, o, 5000)...); s != plain {
		t.Error(s)
	}
	if s := shown(told(t, tso.Weak, o, 5000)...); s != "(0 0)(1 0)| 1 1; (1 0)(0 0)| 1 1; " {
		t.Error(s)
	}
	if s := shown(told(t, tso.Ends, o, 5000)...); s != "(0 0)(1 0)| 1 1; (0 0)(1 1)| 1 1; (0 1)(1 0)| 1 1; (0 1)(1 1)| 1 1; (1 0)(0 0)| 1 1; (1 0)(0 1)| 1 1; (1 1)(0 0)| 1 1; (1 1)(0 1)| 1 1; " {
		t.Fatal(s)
	}
	ways := []string{
		"r0 r0 r0 r1 r1 r1 d0 r0 r0 d1 r1 r1", "r0 r0 r0 d0 r0 r0 r1 r1 r1 d1 r1 r1", "r0 r0 r1 r1 r1 d0 d1 r0 r0 r0 r1 r1", "r0 r0 d0 r1 r1 r1 d1 r0 r0 r0 r1 r1",
		"r0 r0 r0 r1 r1 r1 d0 d1 r1 r0 r0 r1", "r0 r0 r1 r1 r1 d0 d1 r0 r1 r0 r0 r1", "r0 r0 r0 d0 r1 r1 r1 d1 r1 r0 r0 r1", "r0 r0 d0 r1 r1 r1 d1 r0 r1 r0 r0 r1",
	}
	for i, e := range told(t, tso.Ends, o, 5000) {
		way, ok, why := tso.Way(o, 5000, e)
		if !ok || why != api.OK || !slices.Equal(way, steps(ways[i])) {
			t.Error(shown(e), way, ok, why, "not", ways[i])
		}
		goes(t, o, way, e)
	}
	for s, want := range map[string]bool{
		"": true, "00": true, "01": true, "10": true, "11": true, "0010": true, "1000": true, "0011": true, "0110": true, "1101": true,
		"0001": false, "02": false, "20": false, "001000": false, "-": false,
	} {
		var l []api.Print
		for i := 0; i+1 < len(s); i += 2 {
			l = append(l, api.Print{Thread: int(s[i] - '0'), Word: int64(s[i+1] - '0')})
		}
		if s == "-" {
			l = []api.Print{{Thread: -1}}
		}
		if ok, why := tso.Shows(o, 5000, l); ok != want || why != api.OK {
			t.Errorf("Shows %q: %v, error %d", s, ok, why)
		}
	}
	o = object(t, fenced)
	if s := shown(told(t, tso.Ends, o, 5000)...); s != plain {
		t.Error(s)
	}
	if l := told(t, tso.Weak, o, 5000); len(l) != 0 {
		t.Error(shown(l...))
	}
	for _, word := range []int64{0, 1} {
		if ok, why := tso.Shows(o, 5000, []api.Print{{Word: 0}, {Thread: 1, Word: word}}); ok != (word == 1) || why != api.OK {
			t.Error(word, ok, why)
		}
	}
}

// Example 2, and other small objects: how many situations, which ends, and those of them that are weak.
func TestSmall(t *testing.T) {
	for s, want := range map[string]string{
		"object 0 0 1|memory|":                                                        "1: |; weak: ",
		"object 2 0 1|memory 4 -5 6|":                                                 "1: | 4 -5; weak: ",
		"object 0 0 1|memory|core a|jump 0|":                                          "1: weak: ",
		"object 0 0 1|memory|core a|halt|":                                            "2: |; weak: ",
		"object 0 0 1|memory|core a|halt|core b|jump 0|":                              "2: weak: ",
		"object 0 0 1|memory|core a|set r0 5|jump 0|":                                 "3: weak: ",
		"object 0 0 1|memory|core a|set r0 1|set r0 0|jump 2|":                        "3: weak: ",
		"object 0 0 1|memory|core a|print r0|halt|":                                   "3: (0 0)|; weak: ",
		"object 0 0 1|memory|core a|print r0|halt|core b|print r0|halt|":              "13: (0 0)(1 0)|; (1 0)(0 0)|; weak: ",
		"object 1 0 1|memory 7|core a|store r0 0|halt|":                               "5: | 0; weak: ",
		"object 1 0 1|memory 0|core a|store r0 0|halt|":                               "5: | 0; weak: ",
		"object 1 0 1|memory 7|core a|store r0 0|store r0 0|halt|":                    "7: | 0; weak: ",
		"object 1 0 2|memory 7|core a|store r0 0|store r0 0|halt|":                    "9: | 0; weak: ",
		"object 1 0 3|memory 7|core a|store r0 0|store r0 0|halt|":                    "9: | 0; weak: ",
		"object 1 0 1|memory 7|core a|store r0 0|fence|halt|":                         "5: | 0; weak: ",
		"object 1 0 1|memory 7|core a|swap r0 0|halt|":                                "3: | 0; weak: ",
		"object 1 0 1|memory 7|core a|store r0 0|jump 1|":                             "3: weak: ",
		"object 1 0 1|memory 7|core a|store r0 0|print r1|halt|":                      "5: (0 0)| 0; weak: ",
		"object 1 0 1|memory 0|core a|swap r0 0|halt|core b|set r0 3|swap r0 0|halt|": "16: | 0; | 3; weak: ",
		"object 0 0 1|memory 0|core a|swap r0 0|halt|core b|set r0 3|swap r0 0|halt|": "16: |; weak: ",
		"object 0 1 1|memory 0|core a|swap r0 0|halt|core b|set r0 3|swap r0 0|halt|": "16: |; weak: ",
	} {
		o := object(t, s)
		got := fmt.Sprintf("%d: %sweak: %s", count(t, o, 1000), shown(told(t, tso.Ends, o, 1000)...), shown(told(t, tso.Weak, o, 1000)...))
		if got != want {
			t.Errorf("%s: %q, not %q", s, got, want)
		}
	}
}

// P20.1: situations that differ in one thing alone are two: a word of memory that is no variable's, a register, a core's place, what it has in its buffer and by which instruction.
func TestTold(t *testing.T) {
	for _, x := range []struct {
		text string
		want int
	}{
		{"object 0 0 1|memory 0|core a|swap r0 0|jump 1|core b|set r0 3|swap r0 0|set r0 0|jump 3|", 10},
		{"object 0 0 1|memory 0|core a|load r0 0|jump 1|core b|set r0 3|swap r0 0|set r0 0|jump 3|", 10},
		{"object 0 0 1|memory 0|core a|load r0 0|set r0 0|halt|core b|set r0 3|swap r0 0|set r0 0|jump 3|", 18},
		{"object 0 0 1|memory 0|core a|load r0 0|store r0 0|set r0 0|jump 3|core b|set r0 3|swap r0 0|jump 2|", 24},
		{"object 0 0 1|memory 0 0|core a|load r0 0|zero r0 4|store r1 1|jump 5|store r1 1|set r0 0|jump 6|core b|set r0 1|swap r0 0|set r0 0|jump 3|", 42},
	} {
		o := object(t, x.text)
		m, few := modelOf(o, false, 1000)
		if n := count(t, o, 1000); n != len(m.best) || !few || n != x.want {
			t.Errorf("%s: %d, not %d or %d", x.text, n, len(m.best), x.want)
		}
	}
}

// wide has so many cores, each of which has so many situations, whatever the others do.
func wide(t *testing.T, cores, each int) api.Object {
	t.Helper()
	s := "object 0 0 1|memory|"
	for core := range cores {
		s += fmt.Sprintf("core %c|", 'a'+core)
		for k := range each - 1 {
			s += fmt.Sprintf("set r0 %d|", k%2)
		}
		s += fmt.Sprintf("jump %d|", each-1)
	}
	return object(t, s)
}

// refused holds that all calls have an error, and answer nothing beside it; Plain has one of its own.
func refused(t *testing.T, o api.Object, most int, want, wantPlain api.Errno) {
	t.Helper()
	if n, why := tso.Count(o, most); n != 0 || why != want {
		t.Errorf("Count with %d: %d, error %d, not %d", most, n, why, want)
	}
	if l, why := tso.Ends(o, most); l != nil || why != want {
		t.Errorf("Ends with %d: %s, error %d, not %d", most, shown(l...), why, want)
	}
	if l, why := tso.Plain(o, most); why != wantPlain || why != api.OK && l != nil {
		t.Errorf("Plain with %d: %s, error %d, not %d", most, shown(l...), why, wantPlain)
	}
	if l, why := tso.Weak(o, most); l != nil || why != want {
		t.Errorf("Weak with %d: %s, error %d, not %d", most, shown(l...), why, want)
	}
	for _, e := range []api.End{{}, {Ended: true}, {Memory: []int64{0, 0}, Ended: true}} {
		if l, ok, why := tso.Way(o, most, e); l != nil || ok || why != want {
			t.Errorf("Way with %d: %v, %v, error %d, not %d", most, l, ok, why, want)
		}
	}
	for _, l := range [][]api.Print{nil, {}, {{Word: 1}}} {
		if ok, why := tso.Shows(o, most, l); ok || why != want {
			t.Errorf("Shows with %d: %v, error %d, not %d", most, ok, why, want)
		}
	}
}

const forever = "object 0 0 1|memory|core a|print r0|jump 0|"

// P20.1 to P20.3: which error comes first; what most may be.
func TestRefused(t *testing.T) {
	for _, most := range []int{0, -1, math.MinInt, api.MaxStates + 1, math.MaxInt} {
		for _, o := range []api.Object{object(t, buffering), {Buffer: 1}, object(t, forever)} {
			refused(t, o, most, api.ErrRange, api.ErrRange)
		}
	}
	for _, most := range []int{0, -1, 1, 1000, api.MaxStates, api.MaxStates + 1} {
		for _, spoil := range []func(o *api.Object){
			func(o *api.Object) { o.Buffer = 0 },
			func(o *api.Object) { o.Memory = o.Memory[:1] },
			func(o *api.Object) { o.Shared = -1 },
			func(o *api.Object) { o.Cores[1].Name = "A" },
			func(o *api.Object) { o.Cores[1].Code[1].Addr = 2 },
			func(o *api.Object) { o.Cores[0].Code = nil },
			func(o *api.Object) { *o = api.Object{} },
		} {
			o := object(t, buffering)
			spoil(&o)
			refused(t, o, most, api.ErrObject, api.ErrObject)
		}
	}
	for _, most := range []int{1, 2, 500, api.MaxStates} {
		refused(t, object(t, forever), most, api.ErrMany, api.ErrMany)
		refused(t, object(t, "object 0 0 1|memory|core a|set r1 1|add r0 r0 r1|jump 1|"), most, api.ErrMany, api.ErrMany)
	}
}

// P20.1, P20.2: as many as most are not too many; of plain ones there may be fewer.
func TestMost(t *testing.T) {
	for _, x := range []struct {
		cores, each, want int
	}{{1, 1, 1}, {1, 7, 7}, {3, 5, 125}, {4, 16, api.MaxStates}, {2, 256, api.MaxStates}, {1, 4096, 4096}} {
		o := wide(t, x.cores, x.each)
		if n := count(t, o, x.want); n != x.want {
			t.Error(x, n)
		}
		if l := told(t, tso.Plain, o, x.want); len(l) != 0 {
			t.Error(x, shown(l...))
		}
		if n, why := tso.Count(o, x.want-1); x.want > 1 && (n != 0 || why != api.ErrMany) {
			t.Error(x, n, why)
		}
		if n := count(t, o, api.MaxStates); n != x.want {
			t.Error(x, n)
		}
	}
	refused(t, wide(t, 1, api.MaxCode), api.MaxCode-1, api.ErrMany, api.ErrMany)
	// Two cores that store: each stands in one of six ways; in two of them its store waits, so four are plain.
	o := object(t, "object 2 0 1|memory 0 0|core a|set r0 1|store r0 0|halt|core b|set r0 1|store r0 1|halt|")
	if n := count(t, o, 36); n != 36 {
		t.Error(n)
	}
	for most := 1; most < 36; most++ {
		want := api.ErrMany
		if most >= 16 {
			want = api.OK
		}
		refused(t, o, most, api.ErrMany, want)
	}
	if l := told(t, tso.Plain, o, 16); shown(l...) != "| 1 1; " {
		t.Error(shown(l...))
	}
}

// P20.3: an end that there is not: in each of its parts.
func TestNoWay(t *testing.T) {
	o := object(t, buffering)
	for _, e := range told(t, tso.Ends, o, 1000) {
		for _, spoil := range []func(e *api.End){
			func(e *api.End) { e.Ended = false },
			func(e *api.End) { e.Memory = e.Memory[:1] },
			func(e *api.End) { e.Memory = append(e.Memory, 1) },
			func(e *api.End) { e.Memory[1] = 0 },
			func(e *api.End) { e.Prints = e.Prints[:1] },
			func(e *api.End) { e.Prints = append(e.Prints, api.Print{}) },
			func(e *api.End) { e.Prints[1].Word = 2 },
			func(e *api.End) { e.Prints[1].Thread ^= 1 },
			func(e *api.End) { *e = api.End{} },
		} {
			no := api.End{Prints: slices.Clone(e.Prints), Memory: slices.Clone(e.Memory), Ended: e.Ended}
			spoil(&no)
			if way, ok, why := tso.Way(o, 1000, no); way != nil || ok || why != api.OK {
				t.Error(shown(no), way, ok, why)
			}
		}
	}
	for _, e := range []api.End{{Ended: true}, {Ended: true, Prints: []api.Print{}, Memory: []int64{}}} {
		if way, ok, why := tso.Way(api.Object{Buffer: 1}, 1, e); len(way) != 0 || !ok || why != api.OK {
			t.Error(way, ok, why)
		}
	}
	if way, ok, why := tso.Way(api.Object{Buffer: 1}, 1, api.End{}); len(way) != 0 || ok || why != api.OK {
		t.Error(way, ok, why)
	}
	// Ends that differ in what is not a variable's are one: the shortest way to any of them is told.
	o = object(t, "object 1 0 1|memory 0 0|core a|load r0 0|zero r0 3|store r0 1|halt|core b|set r0 1|swap r0 0|halt|")
	l := told(t, tso.Ends, o, 1000)
	if way, ok, why := tso.Way(o, 1000, l[0]); shown(l...) != "| 1; " || !slices.Equal(way, steps("r0 r0 r0 r1 r1 r1")) || !ok || why != api.OK {
		t.Error(shown(l...), way, ok, why)
	}
}

// Much that is printed: all is told, and in good time.
func TestLong(t *testing.T) {
	const rounds = 5000
	o := object(t, fmt.Sprintf("object 0 0 1|memory|core a|set r1 1|set r2 %d|add r0 r0 r1|print r0|less r3 r0 r2|zero r3 7|jump 2|halt|", rounds))
	if n := count(t, o, api.MaxStates); n != 5*rounds+3 {
		t.Error(n)
	}
	l := told(t, tso.Ends, o, api.MaxStates)
	if len(l) != 1 || len(l[0].Prints) != rounds || l[0].Prints[rounds-1].Word != rounds {
		t.Fatal(len(l))
	}
	if way, ok, why := tso.Way(o, api.MaxStates, l[0]); len(way) != 5*rounds+2 || !ok || why != api.OK {
		t.Error(len(way), ok, why)
	}
	for _, n := range []int{0, 1, rounds / 2, rounds} {
		if ok, why := tso.Shows(o, api.MaxStates, l[0].Prints[:n]); !ok || why != api.OK {
			t.Error(n, ok, why)
		}
	}
	for _, no := range [][]api.Print{l[0].Prints[1:], append(slices.Clone(l[0].Prints), api.Print{Word: rounds + 1})} {
		if ok, why := tso.Shows(o, api.MaxStates, no); ok || why != api.OK {
			t.Error(len(no), ok, why)
		}
	}
}

// The greatest memory, written all over: what differs by one word is another situation; it takes neither long nor much memory.
func TestGreat(t *testing.T) {
	o := api.Object{Memory: make([]int64, api.MaxMemory), Shared: api.MaxShared, Buffer: api.MaxBuffer}
	c := api.Core{Name: "a", Code: []api.Instr{{Kind: api.InstrSet, Word: -7}}}
	for addr := range api.MaxMemory {
		o.Memory[addr] = int64(addr % 3)
		c.Code = append(c.Code, api.Instr{Kind: api.InstrStore, Addr: addr})
	}
	c.Code = append(c.Code, api.Instr{Kind: api.InstrHalt})
	o.Cores = []api.Core{c}
	o.Buffer = 1
	if n := count(t, o, api.MaxStates); n != 2*api.MaxMemory+4 {
		t.Error(n)
	}
	l := told(t, tso.Ends, o, api.MaxStates)
	if len(l) != 1 || !slices.Equal(l[0].Memory, slices.Repeat([]int64{-7}, api.MaxShared)) || len(l[0].Prints) != 0 || !l[0].Ended {
		t.Error(len(l))
	}
	for _, addr := range []int{0, 1, 31, 32, 2047, 2048, 4095} {
		// Behind a swap and one back all is as it was, but for the place of the core.
		o.Cores = []api.Core{{Name: "a", Code: []api.Instr{
			{Kind: api.InstrSet, Word: 9}, {Kind: api.InstrSwap, Addr: addr}, {Kind: api.InstrSwap, Addr: addr}, {Kind: api.InstrJump, To: 1},
		}}}
		if n := count(t, o, 100); n != 4 {
			t.Error(addr, n)
		}
	}
	o.Cores = nil
	for core := range api.MaxThreads {
		c.Name = string(rune('a' + core))
		o.Cores = append(o.Cores, c)
	}
	o.Buffer = api.MaxBuffer
	refused(t, o, 20000, api.ErrMany, api.ErrMany)
}
