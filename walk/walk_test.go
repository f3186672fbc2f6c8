package walk_test

import (
	"cmp"
	"fmt"
	"iter"
	"math/rand/v2"
	"slices"
	"strings"
	"testing"

	"stile/api"
	"stile/walk"
)

// place is a situation by its name: to where one comes from it stands in a web, step by step.
type place string

func (p place) Text() string { return string(p) }

type web map[place][]place

func (x web) next(p place) iter.Seq2[int, place] { return slices.All(x[p]) }

// visits are the places that a walk from a comes to, each with its number and its way.
func visits(x web, most int) (string, bool) {
	var l []place
	w, ok := walk.Through("a", most, x.next, func(number int, p place) {
		if number != len(l) {
			panic("a number that is not the next one")
		}
		l = append(l, p)
	})
	if !ok {
		return "", w == nil
	}
	s := ""
	for number, p := range l {
		s += fmt.Sprint(p, w.Way(number), " ")
	}
	return s + fmt.Sprint(w.Count()), true
}

// What was found first is gone on from first, by steps in their order; each place is found once.
func TestThrough(t *testing.T) {
	for _, x := range []struct {
		web  web
		want string
	}{
		{web{}, "a[] 1"},
		{web{"a": {"a"}}, "a[] 1"},
		{web{"a": {"b", "a", "c"}, "b": {"c", "d", "a"}, "c": {"d", "e"}}, "a[] b[0] c[2] d[0 1] e[2 1] 5"},
		{web{"a": {"c", "b"}, "b": {"d"}, "c": {"e", "d"}, "d": {"f"}, "e": {"f"}}, "a[] c[0] b[1] e[0 0] d[0 1] f[0 0 0] 6"},
		{web{"a": {"b"}, "b": {"c"}, "z": {"a"}}, "a[] b[0] c[0 0] 3"},
	} {
		if got, ok := visits(x.web, 9); got != x.want || !ok {
			t.Errorf("%v: %s, not %s", x.web, got, x.want)
		}
	}
}

// As many as most are not too many; one more is.
func TestMost(t *testing.T) {
	x := web{"a": {"b", "c"}, "b": {"d", "a"}, "d": {"e", "b"}}
	want, _ := visits(x, 5)
	for most := 1; most < 9; most++ {
		got, ok := visits(x, most)
		if most < 5 && (got != "" || !ok) || most >= 5 && (got != want || !ok) {
			t.Errorf("most %d: %q", most, got)
		}
	}
	if !strings.HasSuffix(want, " 5") {
		t.Error(want)
	}
}

// Webs by chance: each way is the shortest, of these the least, held against all ways, made longer and longer.
func TestWays(t *testing.T) {
	r := rand.New(rand.NewPCG(8, 20))
	for range 500 {
		x := web{}
		names := []place{"a", "b", "c", "d", "e", "f", "g"}
		for _, p := range names {
			for range r.IntN(4) {
				x[p] = append(x[p], names[r.IntN(len(names))])
			}
		}
		best := map[place][]int{"a": nil}
		ways := map[place][][]int{"a": {nil}}
		for range names {
			longer := map[place][][]int{}
			for from, l := range ways {
				for by, to := range x[from] {
					for _, way := range l {
						longer[to] = append(longer[to], append(slices.Clone(way), by))
					}
				}
			}
			ways = map[place][][]int{}
			for to, l := range longer {
				slices.SortFunc(l, slices.Compare)
				ways[to] = l[:1] // what is not the least to a place is not the least to any behind it
				if _, is := best[to]; !is {
					best[to] = l[0]
				}
			}
		}
		var l []string
		for to, way := range best {
			l = append(l, fmt.Sprint(to, way))
		}
		got, _ := visits(x, 9)
		told := strings.Split(got[:strings.LastIndex(got, " ")], "] ")
		for i := range told {
			told[i] = strings.TrimSuffix(told[i], "]") + "]"
		}
		slices.Sort(told)
		slices.Sort(l)
		if !slices.Equal(told, l) {
			t.Fatal(x, told, l)
		}
	}
}

func TestNumbers(t *testing.T) {
	x := walk.Numbers[string]{}
	for i, s := range []string{"b", "a", "", "b,", "c"} {
		for range 2 {
			if n := x.Of(s); n != i {
				t.Errorf("%q has %d, not %d", s, n, i)
			}
		}
	}
	if x.Of("b") != 0 || x.Of("c") != 4 {
		t.Error(x)
	}
}

// No two lists of numbers make the same text.
func TestAppend(t *testing.T) {
	seen := map[string]int{}
	for _, l := range [][]int64{nil, {0}, {0, 0}, {12}, {1, 2}, {-1, 2}, {1, -2}, {-12}, {-1 << 63}, {1<<63 - 1}} {
		var b []byte
		for _, n := range l {
			b = walk.Append(b, n)
		}
		if seen[string(b)]++; seen[string(b)] > 1 {
			t.Errorf("%q again", b)
		}
	}
	if b := walk.Append(walk.Append([]byte("x"), 4), int64(-5)); string(b) != "x4,-5," {
		t.Errorf("%q", b)
	}
}

// Lists of prints have a number each, whichever is asked for first; only those that were asked for are there.
func TestPrints(t *testing.T) {
	x := walk.NewPrints()
	a, b := api.Print{Word: 1}, api.Print{Thread: 1, Word: 1}
	if !x.Has(nil) || x.Has([]api.Print{a}) || x.Has([]api.Print{{}}) {
		t.Error("at first there is none but the empty list")
	}
	one, other := x.Behind(0, a), x.Behind(0, b)
	seen := map[int]int{0: 1, one: 1, other: 1, x.Behind(one, b): 1, x.Behind(other, a): 1, x.Behind(one, a): 1}
	if len(seen) != 6 || x.Behind(0, a) != one || x.Behind(0, b) != other {
		t.Error(seen)
	}
	for _, l := range [][]api.Print{nil, {}, {a}, {b}, {a, b}, {b, a}, {a, a}} {
		if !x.Has(l) {
			t.Error(l, "is not there")
		}
	}
	for _, l := range [][]api.Print{{b, b}, {a, a, a}, {a, b, a}, {{Thread: 1}}, {{Thread: -1, Word: 1}}, {{}, a}} {
		if x.Has(l) {
			t.Error(l, "is there")
		}
	}
}

// Of like ends the first one counts, and no other is asked how it is; they come in order, and by the first that is so.
func TestEnds(t *testing.T) {
	x := walk.NewEnds()
	asked := 0
	for number, word := range []int64{5, 3, 5, 9, 3, 1} {
		x.Add(fmt.Sprint(word), number, func() api.End {
			asked++
			return api.End{Memory: []int64{word}}
		})
	}
	l := x.Sorted(func(a, b api.End) int { return cmp.Compare(a.Memory[0], b.Memory[0]) })
	if got := fmt.Sprint(l); got != "[{[] [1] false} {[] [3] false} {[] [5] false} {[] [9] false}]" || asked != 4 {
		t.Error(got, asked)
	}
	for _, c := range []struct {
		least int64
		want  int
		is    bool
	}{{6, 3, true}, {4, 0, true}, {0, 0, true}, {10, 0, false}} {
		if number, is := x.Find(func(e api.End) bool { return e.Memory[0] >= c.least }); number != c.want || is != c.is {
			t.Error(c, number, is)
		}
	}
	if l := walk.NewEnds().Sorted(nil); len(l) != 0 {
		t.Error(l)
	}
}
