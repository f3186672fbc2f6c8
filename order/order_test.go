package order_test

import (
	"fmt"
	"math"
	"slices"
	"strconv"
	"strings"
	"testing"

	"stile/api"
	"stile/order"
)

// execution is the one of a text. Each word is an event: its thread, what it does, its thing: 0wx1 writes 1 to x, 0rx1 reads 1, 0bx12 reads 1 and writes 2, 0f is a fence; of what reads =, and the number of the event that wrote that, if one did. Things are x, y, z, and have 0 at first. Their writers come to memory as they stand here, but for those of a thing that is told behind a bar: x31 has number 3 ahead of 1.
func execution(t *testing.T, s string) api.Execution {
	t.Helper()
	events, lists, _ := strings.Cut(s, "|")
	x := api.Execution{First: make([]int64, 3), After: make([][]int, 3)}
	for at, word := range strings.Fields(events) {
		d, from := event(word)
		if d.Kind == api.DeedWrite || d.Kind == api.DeedBoth {
			x.After[d.Thing] = append(x.After[d.Thing], at)
		}
		x.Events, x.From = append(x.Events, d), append(x.From, from)
	}
	for _, word := range strings.Fields(lists) {
		var l []int
		for _, digit := range word[1:] {
			l = append(l, int(digit-'0'))
		}
		x.After[word[0]-'x'] = l
	}
	if why, at := order.Check(x); why != api.OK || at != 0 {
		t.Fatalf("Check(%s): error %d at %d", s, why, at)
	}
	return x
}

func event(word string) (api.Deed, int) {
	word, by, isBy := strings.Cut(word, "=")
	from := -1
	if isBy {
		from, _ = strconv.Atoi(by)
	}
	d := api.Deed{Kind: api.DeedFence, Thread: int(word[0] - '0')}
	if word[1] == 'f' {
		return d, from
	}
	d.Thing = int(word[2] - 'x')
	first, last := int64(word[3]-'0'), int64(word[len(word)-1]-'0')
	switch word[1] {
	case 'w':
		d.Kind, d.Put = api.DeedWrite, first
	case 'r':
		d.Kind, d.Saw = api.DeedRead, first
	case 'b':
		d.Kind, d.Saw, d.Put = api.DeedBoth, first, last
	}
	return d, from
}

// verdict has a C, if an execution is coherent, a T, if it is tso, a P, if it is plain: small ones, where it is not.
func verdict(t *testing.T, x api.Execution) string {
	t.Helper()
	s := ""
	for i, ask := range []func(x api.Execution) (bool, api.Errno){order.Coherent, order.Tso, order.Plain} {
		is, why := ask(x)
		if why != api.OK {
			t.Fatalf("%v: error %d", x, why)
		}
		if is {
			s += "CTP"[i : i+1]
		} else {
			s += "ctp"[i : i+1]
		}
	}
	return s
}

func line(t *testing.T, x api.Execution) ([]int, bool) {
	t.Helper()
	l, ok, why := order.Line(x)
	if why != api.OK || !ok && l != nil {
		t.Fatalf("Line(%v): %v, %v, error %d", x, l, ok, why)
	}
	return l, ok
}

// 22.2, 22.3: examples 1 to 3, and what else is known of memories; the least line, where there is one.
func TestKnown(t *testing.T) {
	for _, y := range []struct{ name, text, want, line string }{
		{"no events (example 3)", "", "CTP", "[]"},
		{"store buffering (example 1)", "0wx1 0ry0 1wy1 1rx0", "CTp", ""},
		{"with fences", "0wx1 0f 0ry0 1wy1 1f 1rx0", "Ctp", ""},
		{"with a fence in one", "0wx1 0f 0ry0 1wy1 1rx0", "CTp", ""},
		{"with fences that come too late", "0wx1 0ry0 0f 1wy1 1rx0 1f", "CTp", ""},
		{"with fences that come too early", "0f 0wx1 0ry0 1f 1wy1 1rx0", "CTp", ""},
		{"with other threads' fences", "0wx1 2f 0ry0 1wy1 3f 1rx0", "CTp", ""},
		{"with exchanges of something else", "0wx1 0bz00 0ry0 1wy1 1bz00=1 1rx0", "Ctp", ""},
		{"by exchanges", "0bx01 0ry0 1by01 1rx0", "Ctp", ""},
		{"by one exchange", "0bx01 0ry0 1wy1 1rx0", "CTp", ""},
		{"of which one is seen", "0wx1 0ry1=2 1wy1 1rx0", "CTP", "[2 3 0 1]"},
		{"with one's own seen", "0wx1 0rx1=0 0ry0 1wy1 1ry1=3 1rx0", "CTp", ""},
		{"with one's own seen behind fences", "0wx1 0f 0rx1=0 0ry0 1wy1 1f 1ry1=4 1rx0", "Ctp", ""},
		{"with one's own seen, and a fence in the other one", "0wx1 0rx1=0 0ry0 1wy1 1f 1rx0", "CTp", ""},
		{"message passing (example 2)", "0wx1 0wy1 1ry1=1 1rx0", "Ctp", ""},
		{"that is passed", "0wx1 0wy1 1ry1=1 1rx1=0", "CTP", "[0 1 2 3]"},
		{"that is not there yet", "0wx1 0wy1 1ry0 1rx0", "CTP", "[2 3 0 1]"},
		{"half of which is there", "0wx1 0wy1 1ry0 1rx1=0", "CTP", "[0 2 1 3]"},
		{"that goes by a third one", "0wx1 1rx1=0 1wy1 2ry1=2 2rx0", "Ctp", ""},
		{"load buffering", "0rx1=3 0wy1 1ry1=1 1wx1", "Ctp", ""},
		{"independent reads of independent writes", "0wx1 1wy1 2rx1=0 2ry0 3ry1=1 3rx0", "Ctp", ""},
		{"two stores each", "0wx1 0wy2 1wy1 1wx2|x30 y12", "Ctp", ""},
		{"a store that comes later", "0wx1 0wy1 1wy2 1rx0|y12", "CTp", ""},
		{"a store that comes later, and a fence", "0wx1 0wy1 1wy2 1f 1rx0|y12", "Ctp", ""},
		{"a store that is overtaken", "0wx2 0wy1 1ry1=1 1wx1|x30", "Ctp", ""},
		{"what was seen is gone", "0wx1 1rx1=0 1rx0", "ctp", ""},
		{"two see two stores in two orders", "0wx1 1wx2 2rx1=0 2rx2=1 3rx2=1 3rx1=0", "ctp", ""},
		{"two see two stores in one order", "0wx1 1wx2 2rx1=0 2rx2=1 3rx1=0 3rx2=1", "CTP", "[0 2 4 1 3 5]"},
		{"stores that come to memory the other way round", "0wx1 1wx2 2rx2=1 2rx1=0|x10", "CTP", "[1 2 0 3]"},
		{"one's own is not seen (example 3)", "0wx1 0rx0", "ctp", ""},
		{"one's own is not seen behind a fence", "0wx1 0f 0rx0", "ctp", ""},
		{"another's is not seen", "0wx1 1rx0", "CTP", "[1 0]"},
		{"one thread's stores the other way round", "0wx1 0wx2|x10", "ctp", ""},
		{"what comes later is seen", "0rx1=1 0wx1", "ctp", ""},
		{"what comes behind one's own is seen ahead of it", "0rx1=2 0wx2 1wx1|x12", "ctp", ""},
		{"what comes ahead of one's own is seen behind it", "1wx1 0wx2 0rx1=0", "ctp", ""},
		{"an exchange", "0wx1 1bx12=0 2rx2=1", "CTP", "[0 1 2]"},
		{"two exchanges that see the same", "0bx01 1bx02", "ctp", ""},
		{"two exchanges in turns", "0bx01 1bx12=0", "CTP", "[0 1]"},
		{"two exchanges that see each other", "0bx21=1 1bx12=0", "ctp", ""},
		{"a store amidst an exchange", "0wx1 1wx2 2bx13=0", "ctp", ""},
		{"a store behind an exchange", "0wx1 1wx2 2bx13=0|x021", "CTP", "[0 2 1]"},
		{"fences alone", "1f 0f 1f 7f", "CTP", "[0 1 2 3]"},
		{"one thread", "0wx1 0wy1 0ry1=1 0rx1=0 0f 0wx2 0rx2=5 0bx23=5", "CTP", "[0 1 2 3 4 5 6 7]"},
		{"what one thread does, and another one sees", "0wx1 0rx1=0 0wx2 1rx1=0 1rx2=2", "CTP", "[0 1 3 2 4]"},
		{"a ring, and what is free", "2wz1 0wx1 0ry0 1wy1 1rx0 2rz1=0", "CTp", ""},
		{"a ring of one thing, and another of two", "0wx1 0wy1 1ry1=1 1rx0 2wz1 2rz0", "ctp", ""},
	} {
		x := execution(t, y.text)
		if got := verdict(t, x); got != y.want {
			t.Errorf("%s: %s, not %s", y.name, got, y.want)
		}
		l, ok := line(t, x)
		if ok != strings.HasSuffix(y.want, "P") || ok && fmt.Sprint(l) != y.line {
			t.Errorf("%s: Line %v, %v, not %s", y.name, l, ok, y.line)
		}
	}
}

// 22.1 to 22.3: as many events, threads and things as there may be, and words of any size; nothing at all.
func TestEdges(t *testing.T) {
	if got := verdict(t, api.Execution{}); got != "CTP" {
		t.Error(got)
	}
	if l, ok := line(t, api.Execution{From: []int{}, After: [][]int{}}); len(l) != 0 || !ok {
		t.Error(l, ok)
	}
	if l, why := order.Reads(api.Execution{}, nil); len(l) != 0 || why != api.OK {
		t.Error(l, why)
	}
	x := api.Execution{First: slices.Repeat([]int64{math.MinInt64}, 5000), After: make([][]int, 5000)}
	var want []int
	for at := range api.MaxEvents {
		d := api.Deed{Kind: api.DeedBoth, Thread: at % api.MaxThreads, Thing: 4999, Saw: math.MaxInt64 - int64(at), Put: math.MaxInt64 - int64(at) - 1}
		from := at - 1
		if at == 0 {
			d.Saw = math.MinInt64
		}
		x.Events, x.From = append(x.Events, d), append(x.From, from)
		x.After[4999] = append(x.After[4999], at)
		want = append(want, at)
	}
	if why, at := order.Check(x); why != api.OK || at != 0 {
		t.Fatal(why, at)
	}
	if got := verdict(t, x); got != "CTP" {
		t.Error(got)
	}
	if l, ok := line(t, x); !ok || !slices.Equal(l, want) {
		t.Error(l, ok)
	}
	if l, why := order.Reads(x, want); !slices.Equal(l, x.From) || why != api.OK {
		t.Error(l, why)
	}
	x.Events[api.MaxEvents-1].Put = 7 // the first one sees the last one: a ring of all
	x.Events[0].Saw, x.From[0] = 7, api.MaxEvents-1
	if got := verdict(t, x); got != "ctp" {
		t.Error(got)
	}
	if l, ok := line(t, x); ok {
		t.Error(l)
	}
}

// right is an execution of each kind of events, with what makes it wrong in many ways.
func right(t *testing.T) api.Execution {
	t.Helper()
	return execution(t, "0wx1 1rx1=0 7by02 2f 1ry2=2 0rz0 3bx13=0 3wx0 4rx0=7 4rx0|x067")
}

func refused(t *testing.T, x api.Execution, want int) {
	t.Helper()
	if why, at := order.Check(x); why != api.ErrEvents || at != want {
		t.Errorf("Check(%v): error %d at %d, not at %d", x, why, at, want)
	}
	for name, ask := range map[string]func(x api.Execution) (bool, api.Errno){"Coherent": order.Coherent, "Plain": order.Plain, "Tso": order.Tso} {
		if is, why := ask(x); is || why != api.ErrEvents {
			t.Errorf("%s(%v): %v, error %d", name, x, is, why)
		}
	}
	if l, ok, why := order.Line(x); l != nil || ok || why != api.ErrEvents {
		t.Errorf("Line(%v): %v, %v, error %d", x, l, ok, why)
	}
	for _, l := range [][]int{nil, {0}, {9, 8, 7, 6, 5, 4, 3, 2, 1, 0}} {
		if l, why := order.Reads(x, l); l != nil || why != api.ErrEvents {
			t.Errorf("Reads(%v): %v, error %d", x, l, why)
		}
	}
}

// 22.1: what is not right of an event by itself, or of its From: each field of each kind, just beyond its edges.
func TestWrongEvents(t *testing.T) {
	count := len(right(t).Events)
	for at := range count {
		for name, spoil := range map[string]func(d *api.Deed, from *int){
			"kind none":     func(d *api.Deed, _ *int) { d.Kind = api.DeedNone },
			"kind count":    func(d *api.Deed, _ *int) { d.Kind = api.DeedCount },
			"kind 255":      func(d *api.Deed, _ *int) { d.Kind = 255 },
			"thread -1":     func(d *api.Deed, _ *int) { d.Thread = -1 },
			"thread 8":      func(d *api.Deed, _ *int) { d.Thread = api.MaxThreads },
			"least thread":  func(d *api.Deed, _ *int) { d.Thread = math.MinInt },
			"most thread":   func(d *api.Deed, _ *int) { d.Thread = math.MaxInt },
			"thing -1":      func(d *api.Deed, _ *int) { d.Thing = -1 },
			"thing 3":       func(d *api.Deed, _ *int) { d.Thing = 3 },
			"least thing":   func(d *api.Deed, _ *int) { d.Thing = math.MinInt },
			"from -2":       func(_ *api.Deed, from *int) { *from = -2 },
			"from count":    func(_ *api.Deed, from *int) { *from = count },
			"most from":     func(_ *api.Deed, from *int) { *from = math.MaxInt },
			"least from":    func(_ *api.Deed, from *int) { *from = math.MinInt },
			"from itself":   func(_ *api.Deed, from *int) { *from = at },
			"from no write": func(_ *api.Deed, from *int) { *from = 5 },
			"from a fence":  func(_ *api.Deed, from *int) { *from = 3 },
		} {
			x := right(t)
			spoil(&x.Events[at], &x.From[at])
			t.Log(name)
			refused(t, x, at)
		}
	}
	// What is read of what comes later: its reader is at fault, if that is no right writer of what it saw; else it may be wrong by itself alone.
	for _, y := range []struct {
		spoil func(d *api.Deed)
		want  int
	}{
		{func(d *api.Deed) { d.Kind = api.DeedNone }, 0},
		{func(d *api.Deed) { d.Kind = api.DeedRead }, 0},
		{func(d *api.Deed) { d.Put = 2 }, 0},
		{func(d *api.Deed) { d.Thing = 1 }, 0},
		{func(d *api.Deed) { d.Thread = 8 }, 2},
		{func(d *api.Deed) { d.Saw = 8 }, 2},
	} {
		x := execution(t, "0rx1=2 0rx0 1wx1")
		y.spoil(&x.Events[2])
		refused(t, x, y.want)
	}
}

// 22.1: what a kind does not use must be zero; From is right in its thing and its word.
func TestWrongFields(t *testing.T) {
	for _, y := range []struct {
		at    int
		spoil func(d *api.Deed, from *int)
	}{
		{0, func(d *api.Deed, _ *int) { d.Saw = 1 }},
		{0, func(d *api.Deed, from *int) { *from = 7 }},
		{1, func(d *api.Deed, _ *int) { d.Put = 1 }},
		{1, func(d *api.Deed, _ *int) { d.Put = -1 }},
		{3, func(d *api.Deed, _ *int) { d.Put = 1 }},
		{3, func(d *api.Deed, _ *int) { d.Saw = 1 }},
		{3, func(d *api.Deed, _ *int) { d.Thing = 1 }},
		{3, func(d *api.Deed, from *int) { *from = 0 }},
		{7, func(d *api.Deed, _ *int) { d.Saw = math.MinInt64 }},
		{7, func(d *api.Deed, from *int) { *from = 0 }},
		{1, func(d *api.Deed, _ *int) { d.Saw = 2 }},
		{1, func(d *api.Deed, _ *int) { d.Saw = 0 }},
		{1, func(d *api.Deed, from *int) { *from = -1 }},
		{1, func(d *api.Deed, from *int) { *from = 2 }},
		{1, func(d *api.Deed, from *int) { *from = 6 }},
		{1, func(d *api.Deed, _ *int) { d.Thing = 1 }},
		{2, func(d *api.Deed, _ *int) { d.Saw = 1 }},
		{2, func(d *api.Deed, from *int) { *from = 2 }},
		{2, func(d *api.Deed, from *int) { d.Saw, *from = 2, 2 }},
		{4, func(d *api.Deed, from *int) { d.Saw, *from = 1, 0 }},
		{5, func(d *api.Deed, _ *int) { d.Saw = 1 }},
		{5, func(d *api.Deed, from *int) { *from = 7 }},
		{6, func(d *api.Deed, from *int) { *from = -1 }},
		{6, func(d *api.Deed, from *int) { *from = 6 }},
		{6, func(d *api.Deed, from *int) { *from = 1 }},
		{8, func(d *api.Deed, from *int) { *from = 8 }},
		{9, func(d *api.Deed, from *int) { *from = 9 }},
		{9, func(d *api.Deed, from *int) { *from = 6 }},
	} {
		x := right(t)
		y.spoil(&x.Events[y.at], &x.From[y.at])
		refused(t, x, y.at)
	}
	// What is seen may be there at first, or of a store, or of a later one: all are right.
	x := right(t)
	for _, from := range []int{-1, 7} {
		for _, at := range []int{8, 9} {
			x.From[at] = from
			if why, at := order.Check(x); why != api.OK || at != 0 {
				t.Error(why, at)
			}
		}
	}
}

// 22.1: numbers of entries come first; then events, the first one; then After.
func TestWrongLists(t *testing.T) {
	wrongTops := map[string]func(x *api.Execution){
		"no From":         func(x *api.Execution) { x.From = nil },
		"a short From":    func(x *api.Execution) { x.From = x.From[:9] },
		"a long From":     func(x *api.Execution) { x.From = append(x.From, -1) },
		"no After":        func(x *api.Execution) { x.After = nil },
		"a short After":   func(x *api.Execution) { x.After = x.After[:2] },
		"a long After":    func(x *api.Execution) { x.After = append(x.After, nil) },
		"no First":        func(x *api.Execution) { x.First = nil },
		"a short First":   func(x *api.Execution) { x.First = x.First[:2] },
		"a long First":    func(x *api.Execution) { x.First = append(x.First, 0) },
		"too many events": func(x *api.Execution) { fill(x, api.MaxEvents+1) },
	}
	wrongAfters := map[string]func(x *api.Execution){
		"one lacks":            func(x *api.Execution) { x.After[0] = []int{0, 6} },
		"all lack":             func(x *api.Execution) { x.After[1] = nil },
		"one stands twice":     func(x *api.Execution) { x.After[0] = []int{0, 6, 6} },
		"one for another":      func(x *api.Execution) { x.After[0] = []int{0, 6, 0} },
		"one more":             func(x *api.Execution) { x.After[0] = []int{0, 6, 7, 0} },
		"a reader":             func(x *api.Execution) { x.After[0] = []int{0, 6, 7, 1} },
		"a fence":              func(x *api.Execution) { x.After[0] = []int{0, 6, 7, 3} },
		"a fence alone":        func(x *api.Execution) { x.After[2] = []int{3} },
		"a reader alone":       func(x *api.Execution) { x.After[2] = []int{5} },
		"one of another thing": func(x *api.Execution) { x.After[1] = []int{2, 0} },
		"things the other way": func(x *api.Execution) { x.After[0], x.After[1] = x.After[1], x.After[0] },
		"one elsewhere":        func(x *api.Execution) { x.After[1], x.After[2] = nil, x.After[1] },
		"-1":                   func(x *api.Execution) { x.After[2] = []int{-1} },
		"the count":            func(x *api.Execution) { x.After[2] = []int{10} },
		"the greatest":         func(x *api.Execution) { x.After[0] = append(x.After[0], math.MaxInt) },
		"many":                 func(x *api.Execution) { x.After[0] = slices.Repeat(x.After[0], 1000) },
	}
	for name, top := range wrongTops {
		x := right(t)
		top(&x)
		t.Log(name)
		refused(t, x, 0)
		x.Events[4].Kind = api.DeedNone
		refused(t, x, 0)
	}
	for name, after := range wrongAfters {
		x := right(t)
		after(&x)
		t.Log(name)
		refused(t, x, 0)
		x.Events[5].Saw = 8
		refused(t, x, 5)
		x.From[3] = 1
		refused(t, x, 3)
	}
	x := right(t)
	fill(&x, api.MaxEvents)
	if why, at := order.Check(x); why != api.OK || at != 0 {
		t.Error(why, at)
	}
	x.Events[api.MaxEvents-1].Thing = 1
	refused(t, x, api.MaxEvents-1)
}

// fill puts fences behind an execution's events, till there are so many.
func fill(x *api.Execution, events int) {
	for len(x.Events) < events {
		x.Events, x.From = append(x.Events, api.Deed{Kind: api.DeedFence}), append(x.From, -1)
	}
}

// 22.3: what is seen, if events are done in a line: any line; and lines that are none.
func TestReads(t *testing.T) {
	x := right(t)
	for _, y := range []struct {
		line, want []int
	}{
		{[]int{0, 1, 2, 3, 4, 5, 6, 7, 8, 9}, []int{-1, 0, -1, -1, 2, -1, 0, -1, 7, 7}},
		{[]int{9, 8, 7, 6, 5, 4, 3, 2, 1, 0}, []int{-1, 6, -1, -1, -1, -1, 7, -1, -1, -1}},
		{[]int{6, 0, 8, 7, 9, 1, 4, 2, 3, 5}, []int{-1, 7, -1, -1, -1, -1, -1, -1, 0, 7}},
	} {
		if l, why := order.Reads(x, y.line); !slices.Equal(l, y.want) || why != api.OK {
			t.Errorf("Reads in %v: %v, error %d, not %v", y.line, l, why, y.want)
		}
	}
	for _, l := range [][]int{
		nil, {}, {0}, {0, 1, 2, 3, 4, 5, 6, 7, 8}, {0, 1, 2, 3, 4, 5, 6, 7, 8, 8}, {0, 0, 2, 3, 4, 5, 6, 7, 8, 9}, {0, 1, 2, 3, 4, 5, 6, 7, 8, 9, 9},
		{0, 1, 2, 3, 4, 5, 6, 7, 8, 9, 10}, {1, 2, 3, 4, 5, 6, 7, 8, 9, 10}, {-1, 1, 2, 3, 4, 5, 6, 7, 8, 9}, {0, 1, 2, 3, 4, 5, 6, 7, 8, math.MaxInt}, {math.MinInt, 1, 2, 3, 4, 5, 6, 7, 8, 9},
		make([]int, 1000),
	} {
		if got, why := order.Reads(x, l); got != nil || why != api.ErrRange {
			t.Errorf("Reads in %v: %v, error %d", l, got, why)
		}
	}
	if got, why := order.Reads(api.Execution{}, []int{0}); got != nil || why != api.ErrRange {
		t.Error(got, why)
	}
	// Of an execution that is not plain, too.
	if l, why := order.Reads(execution(t, "0wx1 0rx0"), []int{0, 1}); !slices.Equal(l, []int{-1, 0}) || why != api.OK {
		t.Error(l, why)
	}
}
