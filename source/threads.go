package source

import (
	"slices"

	"stile/api"
)

// nobody holds a lock that is free.
const nobody = -1

// thread is where a thread stands, and what it has. Copies of a machine have the same slots till one of them changes them: own tells whether nobody else has these.
type thread struct {
	at    int
	slots []int64
	own   bool
}

func (m *Machine) has(thread int) bool {
	return m != nil && thread >= 0 && thread < len(m.threads)
}

func (m *Machine) node(thread int) api.Node { return m.code[thread][m.threads[thread].at] }

func (m *Machine) hasEnded(thread int) bool { return m.node(thread).Kind == api.NodeEnd }

func (m *Machine) waits(thread int) bool {
	n := m.node(thread)
	return n.Kind == api.NodeLock && m.holders[n.Thing] != nobody
}

// refusal is why a thread can't step; OK, if it can.
func (m *Machine) refusal(thread int) api.Errno {
	switch {
	case m == nil:
		return api.ErrNil
	case !m.has(thread):
		return api.ErrRange
	case m.hasEnded(thread):
		return api.ErrEnded
	case m.waits(thread):
		return api.ErrBlocked
	}
	return api.OK
}

// advance steps a thread up to and with its next visible action, or till it has ended: how often. Behind an error what it did is of no use.
func (m *Machine) advance(thread int, classes []api.Class, most int) (int, api.Errno) {
	done := 0
	for !m.hasEnded(thread) {
		n := m.node(thread)
		if m.waits(thread) {
			return 0, api.ErrBlocked
		}
		if done == most {
			return 0, api.ErrMany
		}
		m.Step(thread)
		done++
		if Visible(classes, n) {
			break
		}
	}
	return done, api.OK
}

func (m *Machine) value(thread int, v api.Value) int64 {
	if v.IsSlot {
		return m.threads[thread].slots[v.Slot]
	}
	return v.Word
}

func (m *Machine) put(thread, slot int, w int64) {
	t := &m.threads[thread]
	if !t.own {
		t.slots, t.own = slices.Clone(t.slots), true
	}
	t.slots[slot] = w
}
