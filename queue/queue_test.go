package queue_test

import (
	"math/rand/v2"
	"slices"
	"testing"

	"stile/queue"
)

func less(a, b int) bool { return a < b }

// What comes first by the order is taken out first, whatever was put in when; who has enough is given no more.
func TestEach(t *testing.T) {
	r := rand.New(rand.NewPCG(6, 1))
	for range 300 {
		q := queue.New(less)
		var all []int
		for range r.IntN(40) {
			node := r.IntN(1000)
			all = append(all, node)
			q.Put(node)
		}
		slices.Sort(all)
		enough := r.IntN(len(all) + 1)
		var got []int
		if enough > 0 {
			for node := range q.Each {
				if got = append(got, node); len(got) == enough {
					break
				}
			}
		}
		for node := range q.Each {
			got = append(got, node)
		}
		if !slices.Equal(got, all) {
			t.Fatal(got, "not", all)
		}
	}
	for node := range queue.New(less).Each {
		t.Error("an empty queue has", node)
	}
}

// What is put in while others are taken out comes at its turn.
func TestPutByTheWay(t *testing.T) {
	q := queue.New(func(a, b int) bool { return a > b })
	q.Put(9)
	q.Put(4)
	var got []int
	for node := range q.Each {
		got = append(got, node)
		if node > 5 {
			q.Put(node - 1)
			q.Put(node - 6)
		}
	}
	if !slices.Equal(got, []int{9, 8, 7, 6, 5, 4, 3, 2, 1, 0}) {
		t.Error(got)
	}
}
