// Package queue hands out numbers, of nodes, slots or events that are still to be looked at, in an order that whoever makes a queue tells.
package queue

import "container/heap"

// Queue holds numbers.
type Queue struct{ line line }

// New is an empty queue, from which a comes ahead of b, if first says so.
func New(first func(a, b int) bool) *Queue { return &Queue{line{first: first}} }

func (q *Queue) Put(number int) { heap.Push(&q.line, number) }

// Each takes out number after number and yields it, till none is left: those, too, that are put in by the way.
func (q *Queue) Each(yield func(number int) bool) {
	for q.line.Len() > 0 {
		if !yield(heap.Pop(&q.line).(int)) {
			return
		}
	}
}

// line is what container/heap asks for.
type line struct {
	numbers []int
	first   func(a, b int) bool
}

func (l *line) Len() int { return len(l.numbers) }

func (l *line) Less(i, j int) bool { return l.first(l.numbers[i], l.numbers[j]) }

func (l *line) Swap(i, j int) { l.numbers[i], l.numbers[j] = l.numbers[j], l.numbers[i] }

func (l *line) Push(number any) { l.numbers = append(l.numbers, number.(int)) }

func (l *line) Pop() any {
	last := len(l.numbers) - 1
	number := l.numbers[last]
	l.numbers = l.numbers[:last]
	return number
}
