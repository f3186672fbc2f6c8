package target

import (
	"stile/api"
	"stile/lexer"
)

// isRightTop tells whether an object is right but for its instructions.
func isRightTop(o api.Object) bool {
	if !within(o.Shared, api.MaxShared+1) || !within(o.Locks, api.MaxLocks+1) ||
		len(o.Memory) < o.Shared+o.Locks || len(o.Memory) > api.MaxMemory ||
		o.Buffer < 1 || o.Buffer > api.MaxBuffer || len(o.Cores) > api.MaxThreads {
		return false
	}
	names := map[string]int{}
	for _, c := range o.Cores {
		names[c.Name]++
		if !lexer.Name(c.Name) || names[c.Name] > 1 || !isRightCode(c.Code) {
			return false
		}
	}
	return true
}

// isRightCode tells whether a code is right but for its instructions: it does not run out at its end.
func isRightCode(l []api.Instr) bool {
	if len(l) < 1 || len(l) > api.MaxCode {
		return false
	}
	last := l[len(l)-1].Kind
	return last == api.InstrHalt || last == api.InstrJump
}

func within(n, count int) bool { return n >= 0 && n < count }
