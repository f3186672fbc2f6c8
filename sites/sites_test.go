package sites_test

import (
	"fmt"
	"slices"
	"testing"

	"stile/api"
	"stile/cfg"
	"stile/parse"
	"stile/sites"
)

// Sets hold each number that a lock, or a thread, may have.
func TestSet(t *testing.T) {
	var s sites.Set
	var all []int
	for n := range max(api.MaxLocks, api.MaxThreads) {
		if s.Has(n) || s.Count() != n || !slices.Equal(s.List(), all) {
			t.Error(n, s)
		}
		s = s.With(n).With(n)
		all = append(all, n)
		if !s.Has(n) || s.Count() != n+1 || !slices.Equal(s.List(), all) {
			t.Error(n, s)
		}
	}
	if l := sites.Set(0).With(9).With(2).With(15).List(); !slices.Equal(l, []int{2, 9, 15}) {
		t.Error(l)
	}
	if l := sites.Set(0).List(); l != nil {
		t.Error(l)
	}
}

func unit(t *testing.T) api.Unit {
	t.Helper()
	p, _, _ := parse.Parse("shared x; lock l, m; thread a { local r; lock m { lock l { r = swap(x, 1); } x = 2; } } thread b { print x; }")
	u, why := cfg.Lower(p)
	if why != api.OK {
		t.Fatal(why)
	}
	g := &u.Graphs[1]
	g.Nodes = append(g.Nodes, api.Node{Kind: api.NodeStore}) // nobody comes to it
	return u
}

func text(s sites.Site) string {
	return fmt.Sprint(s.At, s.Held.List(), s.Reads(), s.Writes(), s.Touches())
}

// Nodes that are reached come in order, with what is held and what they do; who has enough of them is given no more.
func TestEach(t *testing.T) {
	u := unit(t)
	want := []string{
		"{0 0} [] false false false",
		"{0 1} [1] false false false",
		"{0 2} [0 1] true true true",
		"{0 3} [0 1] false false false",
		"{0 4} [1] false true true",
		"{0 5} [1] false false false",
		"{0 6} [] false false false",
		"{1 0} [] true false true",
		"{1 1} [] false false false",
		"{1 2} [] false false false",
	}
	for n := range len(want) + 1 {
		var got []string
		for s := range sites.Each(u) {
			if s.Node != u.Graphs[s.At.Thread].Nodes[s.At.Node] {
				t.Error(s)
			}
			if got = append(got, text(s)); len(got) == n {
				break
			}
		}
		if n == 0 {
			n = len(want)
		}
		if !slices.Equal(got, want[:n]) {
			t.Errorf("%q", got)
		}
	}
	var got []string
	for s := range sites.Thread(u, 1) {
		got = append(got, text(s))
	}
	if !slices.Equal(got, want[7:]) {
		t.Errorf("%q", got)
	}
}
