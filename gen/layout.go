package gen

import "stile/api"

// lockAt and cellAt are addresses: the shared variables stand first in memory, behind them the locks, then each thread's cells.
func lockAt(u api.Unit, lock int) int { return len(u.Shared) + lock }

func cellAt(u api.Unit, places []api.Alloc, thread, cell int) int {
	at := lockAt(u, len(u.Locks)) + cell
	for _, a := range places[:thread] {
		at += a.Cells
	}
	return at
}

// memoryOf is how many words that takes.
func memoryOf(u api.Unit, places []api.Alloc) int { return cellAt(u, places, len(places), 0) }
