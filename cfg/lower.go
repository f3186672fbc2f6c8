package cfg

import (
	"strings"

	"stile/api"
	"stile/check"
)

// lowerer makes the graph of a thread: open are the places to which the number of the next node belongs, each as what fills it.
type lowerer struct {
	p      api.Program
	thread int
	graph  api.Graph
	open   []func(node int)
	table  [api.StmtCount]func(x *lowerer, s api.Stmt)
}

func newLowerer(p api.Program, thread int) *lowerer {
	t := p.Threads[thread]
	locals := len(t.Locals)
	return &lowerer{
		p:      p,
		thread: thread,
		graph:  api.Graph{Name: strings.Clone(t.Name), Locals: locals, Slots: locals},
		table: [api.StmtCount]func(x *lowerer, s api.Stmt){
			api.StmtAssign: (*lowerer).assign,
			api.StmtSwap:   (*lowerer).swap,
			api.StmtIf:     (*lowerer).choice,
			api.StmtWhile:  (*lowerer).loop,
			api.StmtLock:   (*lowerer).guard,
			api.StmtPrint:  (*lowerer).print,
			api.StmtSkip:   (*lowerer).skip,
		},
	}
}

func lower(p api.Program, thread int) api.Graph {
	x := newLowerer(p, thread)
	x.block(p.Threads[thread].Body)
	x.put(api.Node{Kind: api.NodeEnd})
	return x.graph
}

// put puts a node behind all others; of what goes on at one place its Next is open.
func (x *lowerer) put(n api.Node) int {
	at := len(x.graph.Nodes)
	if at == api.MaxNodes {
		panic(api.ErrMany)
	}
	n.Origin = at
	x.graph.Nodes = append(x.graph.Nodes, n)
	x.fill(at)
	x.open = []func(node int){x.next(at)}
	return at
}

func (x *lowerer) fill(node int) {
	for _, set := range x.open {
		set(node)
	}
}

func (x *lowerer) next(at int) func(node int) {
	return func(node int) { x.graph.Nodes[at].Next = node }
}

func (x *lowerer) other(at int) func(node int) {
	return func(node int) { x.graph.Nodes[at].Else = node }
}

// slot is a new slot, behind all others.
func (x *lowerer) slot() int {
	x.graph.Slots++
	return x.graph.Slots - 1
}

// local is the slot of a local; -1, if the name is a shared variable's.
func (x *lowerer) local(name string) int { return check.Local(x.p, x.thread, name) }

func (x *lowerer) shared(name string) int { return check.Shared(x.p, name) }

func slotValue(slot int) api.Value { return api.Value{IsSlot: true, Slot: slot} }

func (x *lowerer) value(e api.Expr) api.Value {
	switch e.Kind {
	case api.ExprNumber:
		return api.Value{Word: e.Word}
	case api.ExprName:
		return x.variable(e.Name)
	}
	n := api.Node{Kind: api.NodeSet, Op: e.Op, A: x.value(e.Kids[0])}
	if e.Kind == api.ExprBinary {
		n.B = x.value(e.Kids[1])
	}
	n.Slot = x.slot()
	x.put(n)
	return slotValue(n.Slot)
}

func (x *lowerer) variable(name string) api.Value {
	if local := x.local(name); local >= 0 {
		return slotValue(local)
	}
	slot := x.slot()
	x.put(api.Node{Kind: api.NodeLoad, Slot: slot, Thing: x.shared(name)})
	return slotValue(slot)
}

func (x *lowerer) block(l []api.Stmt) {
	for _, s := range l {
		x.table[s.Kind](x, s)
	}
}

func (x *lowerer) assign(s api.Stmt) {
	v := x.value(s.E[0])
	if local := x.local(s.Name); local >= 0 {
		x.put(api.Node{Kind: api.NodeSet, Slot: local, A: v})
		return
	}
	x.put(api.Node{Kind: api.NodeStore, Thing: x.shared(s.Name), A: v})
}

func (x *lowerer) swap(s api.Stmt) {
	n := api.Node{Kind: api.NodeSwap, Thing: x.shared(s.Other), A: x.value(s.E[0])}
	if local := x.local(s.Name); local >= 0 {
		n.Slot = local
		x.put(n)
		return
	}
	n.Slot = x.slot()
	x.put(n)
	x.put(api.Node{Kind: api.NodeStore, Thing: x.shared(s.Name), A: slotValue(n.Slot)})
}

func (x *lowerer) branch(s api.Stmt) int {
	return x.put(api.Node{Kind: api.NodeBranch, A: x.value(s.E[0])})
}

func (x *lowerer) choice(s api.Stmt) {
	at := x.branch(s)
	x.block(s.Body)
	body := x.open
	x.open = []func(node int){x.other(at)}
	x.block(s.Else)
	x.open = append(x.open, body...)
}

func (x *lowerer) loop(s api.Stmt) {
	head := len(x.graph.Nodes)
	at := x.branch(s)
	x.block(s.Body)
	x.fill(head)
	x.open = []func(node int){x.other(at)}
}

func (x *lowerer) guard(s api.Stmt) {
	lock := check.Lock(x.p, s.Name)
	x.put(api.Node{Kind: api.NodeLock, Thing: lock})
	x.block(s.Body)
	x.put(api.Node{Kind: api.NodeUnlock, Thing: lock})
}

func (x *lowerer) print(s api.Stmt) {
	x.put(api.Node{Kind: api.NodePrint, A: x.value(s.E[0])})
}

func (x *lowerer) skip(api.Stmt) {}
