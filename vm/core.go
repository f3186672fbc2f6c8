package vm

import (
	"slices"

	"stile/api"
	"stile/target"
)

// core is how a core stands, and its code: forks share that, as it never changes.
type core struct {
	api.CoreView
	code []api.Instr
}

// view is how the core stands, in memory of its own.
func (c *core) view() api.CoreView {
	v := c.CoreView
	v.Buffer = slices.Clone(v.Buffer)
	return v
}

func (c *core) next() api.Instr { return c.code[c.At] }

// mustWait tells whether the next instruction can't be done while so much is in the buffer.
func (c *core) mustWait(room int) bool {
	kind := c.next().Kind
	if target.Drains(kind) {
		return len(c.Buffer) > 0
	}
	return kind == api.InstrStore && len(c.Buffer) >= room
}

// newest is the word of the newest store to an address that waits, if one does.
func (c *core) newest(addr int) (int64, bool) {
	for _, s := range slices.Backward(c.Buffer) {
		if s.Addr == addr {
			return s.Word, true
		}
	}
	return 0, false
}

// takeOldest has the oldest store, and no more in the buffer, if there is one.
func (c *core) takeOldest() (api.Store, bool) {
	if len(c.Buffer) == 0 {
		return api.Store{}, false
	}
	s := c.Buffer[0]
	c.Buffer = c.Buffer[1:]
	return s, true
}
