// Package queue hands out nodes that are still to be looked at, in an order that whoever makes a queue tells.
package queue

import "container/heap"

// Queue holds the numbers of nodes.
type Queue struct{ line line }

// New is an empty queue, from which a comes ahead of b, if first says so.
func New(first func(a, b int) bool) *Queue { return &Queue{line{first: first}} }

func (q *Queue) Put(node int) { heap.Push(&q.line, node) }

// Each takes out node after node and yields it, till none is left: those, too, that are put in by the way.
func (q *Queue) Each(yield func(node int) bool) {
	for q.line.Len() > 0 {
		if !yield(heap.Pop(&q.line).(int)) {
			return
		}
	}
}

// line is what container/heap asks for.
type line struct {
	nodes []int
	first func(a, b int) bool
}

func (l *line) Len() int { return len(l.nodes) }

func (l *line) Less(i, j int) bool { return l.first(l.nodes[i], l.nodes[j]) }

func (l *line) Swap(i, j int) { l.nodes[i], l.nodes[j] = l.nodes[j], l.nodes[i] }

func (l *line) Push(node any) { l.nodes = append(l.nodes, node.(int)) }

func (l *line) Pop() any {
	last := len(l.nodes) - 1
	node := l.nodes[last]
	l.nodes = l.nodes[:last]
	return node
}
