// Package said keeps what was printed, for machines that are copied: source and vm.
package said

import "stile/api"

// List is a print, with those ahead of it (nil: nothing was printed). It never changes: copies of a machine go on from the same one.
type List struct {
	ahead *List
	print api.Print
	count int
}

// Then is a list with one print more.
func (l *List) Then(p api.Print) *List { return &List{ahead: l, print: p, count: l.length() + 1} }

func (l *List) length() int {
	if l == nil {
		return 0
	}
	return l.count
}

// All are the prints, in order.
func (l *List) All() []api.Print {
	all := make([]api.Print, l.length())
	for ; l != nil; l = l.ahead {
		all[l.count-1] = l.print
	}
	return all
}
