package roam_test

import (
	"fmt"
	"testing"

	"stile/api"
	"stile/cfg"
	"stile/explore"
	"stile/parse"
	"stile/roam"
)

func unit(t *testing.T, s string) api.Unit {
	t.Helper()
	p, why, f := parse.Parse(s)
	if why != api.OK {
		t.Fatalf("Parse(%q): error %d, %v", s, why, f)
	}
	u, why := cfg.Lower(p)
	if why != api.OK {
		t.Fatalf("Lower of %q: error %d", s, why)
	}
	return u
}

// Each situation once, each by the shortest way, of these the least.
func TestThrough(t *testing.T) {
	u := unit(t, "lock l; thread a { lock l { } } thread b { lock l { } print 3; }")
	texts := map[string]int{}
	w, why := roam.Through(u, 20, func(number int, s roam.Situation) {
		if number != len(texts) || texts[s.Text()] > 0 {
			t.Error(number, s.Text(), texts)
		}
		texts[s.Text()]++
	})
	if why != api.OK || w.Count() != len(texts) || len(texts) != 11 {
		t.Fatal(w, why, len(texts))
	}
	got := ""
	for number := range w.Count() {
		got += fmt.Sprint(w.Way(number))
	}
	if got != "[][0][1][0 0][1 1][0 0 1][1 1 0][1 1 1][0 0 1 1][1 1 0 1][0 0 1 1 1]" {
		t.Error(got)
	}
	if !w.Shows(nil) || !w.Shows([]api.Print{{Thread: 1, Word: 3}}) || w.Shows([]api.Print{{Word: 3}}) {
		t.Error("what was printed")
	}
}

// The ends, each with the number of the first situation that is it; errors, and as many as most.
func TestEnds(t *testing.T) {
	u := unit(t, "shared x; lock l; thread a { lock l { x = 1; lock l { } } } thread b { x = 2; }")
	l, w, why := roam.Ends(u, 50)
	if why != api.OK {
		t.Fatal("Ends: error", why)
	}
	if got := fmt.Sprint(l.Sorted(explore.Compare)); got != "[{[] [1] false} {[] [2] false}]" {
		t.Error(got)
	}
	for word, want := range map[int64]string{1: "[0 1 0]", 2: "[0 0 1]"} {
		number, is := l.Find(func(e api.End) bool { return e.Memory[0] == word })
		if got := fmt.Sprint(w.Way(number)); got != want || !is {
			t.Error(word, got, is)
		}
	}
	wrong := unit(t, "thread a { }")
	wrong.Graphs[0].Nodes[0].Slot = 3
	for _, x := range []struct {
		u    api.Unit
		most int
		want api.Errno
	}{{u, w.Count(), api.OK}, {u, w.Count() - 1, api.ErrMany}, {u, 0, api.ErrRange}, {u, api.MaxStates + 1, api.ErrRange}, {u, api.MaxStates, api.OK}, {wrong, 0, api.ErrGraph}} {
		if _, _, why := roam.Ends(x.u, x.most); why != x.want {
			t.Error(x.most, "error", why, "not", x.want)
		}
	}
}
