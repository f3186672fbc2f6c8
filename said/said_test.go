package said_test

import (
	"slices"
	"testing"

	"stile/api"
	"stile/said"
)

// Lists that go on from one stay as they are, whatever is done with others, or with what they answer.
func TestList(t *testing.T) {
	var none *said.List
	if l := none.All(); len(l) != 0 {
		t.Error(l)
	}
	one := none.Then(api.Print{Thread: 1, Word: 5})
	two, other := one.Then(api.Print{Word: -7}), one.Then(api.Print{Thread: 2})
	for range 2 {
		for _, x := range []struct {
			list *said.List
			want []api.Print
		}{
			{one, []api.Print{{Thread: 1, Word: 5}}},
			{two, []api.Print{{Thread: 1, Word: 5}, {Word: -7}}},
			{other, []api.Print{{Thread: 1, Word: 5}, {Thread: 2}}},
		} {
			l := x.list.All()
			if !slices.Equal(l, x.want) {
				t.Errorf("%v, not %v", l, x.want)
			}
			clear(append(l, api.Print{})[:len(l)])
			clear(l)
		}
	}
}

// A long list is told whole.
func TestLong(t *testing.T) {
	var l *said.List
	for w := range int64(100000) {
		l = l.Then(api.Print{Word: w})
	}
	for i, p := range l.All() {
		if p.Word != int64(i) {
			t.Fatal(i, p)
		}
	}
}
