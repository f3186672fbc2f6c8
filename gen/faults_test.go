package gen_test

import (
	"math"
	"slices"
	"testing"

	"stile/api"
	"stile/gen"
	"stile/target"
)

// refused holds that Generate has an error, and Starts, if its buffer is of no weight, too; and that neither answers anything beside it.
func refused(t *testing.T, u api.Unit, fences [][]int, places []api.Alloc, buffer int, want api.Errno) {
	t.Helper()
	o, why := gen.Generate(u, fences, places, buffer)
	if why != want || !target.Same(o, api.Object{}) {
		t.Errorf("Generate with %v, %v, %d: %v, error %d, not %d", fences, places, buffer, o, why, want)
	}
	l, why := gen.Starts(u, fences, places)
	if want == api.ErrRange {
		want = api.OK
	}
	if why != want || want != api.OK && l != nil {
		t.Errorf("Starts with %v, %v: %v, error %d, not %d", fences, places, l, why, want)
	}
}

// Two threads of 5 and 9 nodes; r clashes with s in the second. (The fences that are taken are not enough.)
const faulty = "shared x, y; lock l; thread a { local r; x = 1; r = y; print r; } thread b { local r, s; r = 1; s = y; lock l { y = r + s; x = 1; } }"

func fits() [][]int { return [][]int{{0, 4}, {8}} }

func goes() []api.Alloc {
	return []api.Alloc{{Places: []api.Place{cell(0), reg(12)}, Cells: 1}, {Places: []api.Place{reg(0), reg(1), reg(1), reg(0)}}}
}

// 17.1, 17.2, P1, P2: units that may not be, ahead of all else.
func TestWrongUnits(t *testing.T) {
	for _, spoil := range []func(u *api.Unit){
		func(u *api.Unit) { u.Shared[1].Name = "x" },
		func(u *api.Unit) { u.Locks[0].Word = 1 },
		func(u *api.Unit) { u.Graphs[1].Name = "" },
		func(u *api.Unit) { u.Graphs = slices.Repeat(u.Graphs, 5) },
		func(u *api.Unit) { u.Graphs[0].Nodes = nil },
		func(u *api.Unit) { u.Graphs[0].Slots = -1 },
		func(u *api.Unit) { u.Graphs[0].Nodes[1].Slot = math.MaxInt },
		func(u *api.Unit) { u.Graphs[0].Nodes[0].Thing = -1 },
		func(u *api.Unit) { u.Graphs[1].Nodes[0].Kind = 200 },
		func(u *api.Unit) { u.Graphs[1].Nodes[0].Next = 99 },
		func(u *api.Unit) { u.Graphs[1].Nodes[0].Origin = api.MaxNodes },
		func(u *api.Unit) { u.Graphs[1].Nodes[0].A = api.Value{Slot: 1} },
		func(u *api.Unit) {
			u.Graphs[1].Nodes[5] = api.Node{Kind: api.NodeUnlock, Next: 6}
		},
	} {
		u := unit(t, faulty)
		spoil(&u)
		for _, fences := range [][][]int{nil, fits(), {{-1}, nil}} {
			for _, places := range [][]api.Alloc{nil, goes(), {{}, {Cells: -1}}} {
				for _, buffer := range []int{0, 1} {
					refused(t, u, fences, places, buffer, api.ErrGraph)
				}
				if a, why := gen.Cell(u, places, 0, 0); a != 0 || why != api.ErrGraph {
					t.Error("Cell:", a, "error", why)
				}
			}
		}
		for _, lock := range []int{-1, 0, 1} {
			if a, why := gen.Lock(u, lock); a != 0 || why != api.ErrGraph {
				t.Error("Lock:", a, "error", why)
			}
		}
	}
}

// 17.1, 17.2: fences that are none, ahead of places that may not be, ahead of buffers out of range.
func TestRefused(t *testing.T) {
	u := unit(t, faulty)
	generate(t, u, fits(), goes(), 1)
	for _, fences := range [][][]int{
		nil, {}, {nil}, {nil, nil, nil}, {{-1}, nil}, {nil, {-1, 0}}, {{math.MinInt}, nil}, {{5}, nil}, {nil, {9}}, {{0, 5}, nil}, {{math.MaxInt}, nil},
		{{1, 1}, nil}, {{2, 1}, nil}, {nil, {0, 1, 2, 2}}, {{0, 1, 2, 3, 3}, nil},
	} {
		for _, places := range [][]api.Alloc{goes(), nil, {{Cells: -1}, {}}} {
			for _, buffer := range []int{1, 0} {
				refused(t, u, fences, places, buffer, api.ErrFence)
			}
		}
	}
	for _, spoil := range []func(l []api.Alloc) []api.Alloc{
		func(l []api.Alloc) []api.Alloc { return nil },
		func(l []api.Alloc) []api.Alloc { return l[:1] },
		func(l []api.Alloc) []api.Alloc { return append(l, api.Alloc{}) },
		func(l []api.Alloc) []api.Alloc { l[0].Places = l[0].Places[:1]; return l },
		func(l []api.Alloc) []api.Alloc { l[1].Places = append(l[1].Places, reg(0)); return l },
		func(l []api.Alloc) []api.Alloc { l[0].Places[1] = reg(api.FreeRegs); return l },
		func(l []api.Alloc) []api.Alloc { l[1].Places[2] = reg(-1); return l },
		func(l []api.Alloc) []api.Alloc { l[0].Places[0] = cell(1); return l },
		func(l []api.Alloc) []api.Alloc { l[0].Places[0] = cell(-1); return l },
		func(l []api.Alloc) []api.Alloc { l[1].Places[0] = cell(0); return l },
		func(l []api.Alloc) []api.Alloc { l[0].Cells = 0; return l },
		func(l []api.Alloc) []api.Alloc { l[1].Cells = -1; return l },
		func(l []api.Alloc) []api.Alloc { l[1].Cells = api.MaxSlots + 1; return l },
		// r and s, which clash, have one register, or one cell.
		func(l []api.Alloc) []api.Alloc { l[1].Places[1] = reg(0); return l },
		func(l []api.Alloc) []api.Alloc {
			l[1] = api.Alloc{Places: []api.Place{cell(0), cell(0), reg(1), reg(0)}, Cells: 1}
			return l
		},
	} {
		for _, buffer := range []int{1, api.MaxBuffer, 0, -1} {
			refused(t, u, fits(), spoil(goes()), buffer, api.ErrAlloc)
		}
	}
	for _, buffer := range []int{0, -1, api.MaxBuffer + 1, math.MaxInt, math.MinInt} {
		refused(t, u, fits(), goes(), buffer, api.ErrRange)
		refused(t, api.Unit{}, nil, nil, buffer, api.ErrRange)
	}
	for buffer := 1; buffer <= api.MaxBuffer; buffer++ {
		if o := generate(t, u, fits(), goes(), buffer); o.Buffer != buffer {
			t.Error(o.Buffer, "not", buffer)
		}
	}
}

// long is a unit of threads of so many nodes each, all but the last of which are four instructions.
func long(nodes, threads int) (api.Unit, []api.Alloc) {
	u := api.Unit{}
	var places []api.Alloc
	for n := range threads {
		g := api.Graph{Name: string(rune('a' + n)), Slots: 1}
		for at := range nodes - 1 {
			g.Nodes = append(g.Nodes, api.Node{Kind: api.NodeSet, Op: api.OpAdd, A: slot(0), B: slot(0), Next: at + 1, Origin: at})
		}
		g.Nodes = append(g.Nodes, api.Node{Kind: api.NodeEnd, Origin: nodes - 1})
		u.Graphs = append(u.Graphs, g)
		places = append(places, api.Alloc{Places: []api.Place{cell(0)}, Cells: 1})
	}
	return u, places
}

// 17.1, 17.2, P1: the longest code, of all threads, and one longer by an instruction; buffers out of range are told ahead of it.
func TestLongest(t *testing.T) {
	u, places := long(api.MaxNodes, api.MaxThreads)
	fences := slices.Repeat([][]int{{0, 7, api.MaxNodes - 1}}, api.MaxThreads)
	o := generate(t, u, fences, places, 1)
	l := starts(t, u, fences, places)
	for thread, c := range o.Cores {
		if len(c.Code) != api.MaxCode || len(l[thread]) != api.MaxNodes || l[thread][api.MaxNodes-1] != api.MaxCode-2 {
			t.Error(thread, len(c.Code), len(l[thread]))
		}
	}
	if why, core, at := target.Check(o); why != api.OK {
		t.Error("Check: error", why, core, at)
	}
	for _, thread := range []int{0, 3, api.MaxThreads - 1} {
		more := slices.Clone(fences)
		more[thread] = []int{0, 7, 9, api.MaxNodes - 1}
		refused(t, u, more, places, 1, api.ErrMany)
		if _, why := gen.Generate(u, more, places, 0); why != api.ErrRange {
			t.Error("error", why)
		}
	}
	all := make([]int, api.MaxNodes)
	for node := range all {
		all[node] = node
	}
	refused(t, u, slices.Repeat([][]int{all}, api.MaxThreads), places, 1, api.ErrMany)
}

// 17.1, 17.2: as much memory as there may be, and a word more.
func TestMemory(t *testing.T) {
	u := unit(t, "shared x, y; lock l; thread a { } thread b { } thread c { }")
	cells := func(a, b, c int) []api.Alloc { return []api.Alloc{{Cells: a}, {Cells: b}, {Cells: c}} }
	const room = api.MaxMemory - 3
	for _, places := range [][]api.Alloc{cells(room, 0, 0), cells(0, 0, room), cells(1, room-3, 2)} {
		if o := generate(t, u, bare(u), places, 1); len(o.Memory) != api.MaxMemory {
			t.Error(len(o.Memory))
		}
		for thread := range places {
			more := slices.Clone(places)
			more[thread].Cells++
			refused(t, u, bare(u), more, 1, api.ErrMany)
			if _, why := gen.Generate(u, bare(u), more, 17); why != api.ErrRange {
				t.Error("error", why)
			}
		}
	}
	refused(t, u, bare(u), cells(api.MaxSlots, api.MaxSlots, api.MaxSlots), 1, api.ErrMany)
	refused(t, u, bare(u), cells(api.MaxSlots, 0, 0), 1, api.ErrMany)
	refused(t, u, bare(u), cells(api.MaxSlots, 0, api.MaxSlots+1), 1, api.ErrAlloc)
}

// 17.3: addresses of locks, and those that are none.
func TestLock(t *testing.T) {
	u := unit(t, "shared x, y; lock l, m, n; thread a { }")
	for lock := range 3 {
		if a, why := gen.Lock(u, lock); a != lock+2 || why != api.OK {
			t.Error("Lock of", lock, a, "error", why)
		}
	}
	for _, lock := range []int{-1, 3, math.MaxInt, math.MinInt} {
		if a, why := gen.Lock(u, lock); a != 0 || why != api.ErrRange {
			t.Error("Lock of", lock, a, "error", why)
		}
	}
	if a, why := gen.Lock(unit(t, "lock l; thread a { }"), 0); a != 0 || why != api.OK {
		t.Error("Lock:", a, "error", why)
	}
	if a, why := gen.Lock(api.Unit{}, 0); a != 0 || why != api.ErrRange {
		t.Error("Lock:", a, "error", why)
	}
}

// 17.3: addresses of cells, whatever the places are beside; those that are none.
func TestCell(t *testing.T) {
	u := unit(t, "shared x, y; lock l; thread a { local r; r = 1; } thread b { } thread c { }")
	places := []api.Alloc{{Cells: 2}, {Cells: 0, Places: []api.Place{cell(77)}}, {Cells: api.MaxSlots}}
	for _, x := range []struct{ thread, cell, want int }{{0, 0, 3}, {0, 1, 4}, {2, 0, 5}, {2, 1, 6}, {2, api.MaxSlots - 1, 4 + api.MaxSlots}} {
		if a, why := gen.Cell(u, places, x.thread, x.cell); a != x.want || why != api.OK {
			t.Error("Cell of", x.thread, x.cell, a, "error", why)
		}
	}
	for _, x := range []struct{ thread, cell int }{
		{0, -1}, {0, 2}, {1, 0}, {1, -1}, {2, api.MaxSlots}, {-1, 0}, {3, 0}, {math.MaxInt, 0}, {math.MinInt, 0}, {0, math.MaxInt}, {2, math.MinInt},
	} {
		if a, why := gen.Cell(u, places, x.thread, x.cell); a != 0 || why != api.ErrRange {
			t.Error("Cell of", x.thread, x.cell, a, "error", why)
		}
	}
	for _, places := range [][]api.Alloc{
		nil, places[:2], append(slices.Clone(places), api.Alloc{}), {{Cells: 2}, {Cells: 2}, {Cells: -1}}, {{Cells: 2}, {Cells: api.MaxSlots + 1}, {}},
		{{Cells: 2}, {}, {Cells: math.MaxInt}}, {{Cells: math.MinInt}, {}, {}},
	} {
		for _, thread := range []int{-1, 0, 9} {
			if a, why := gen.Cell(u, places, thread, 0); a != 0 || why != api.ErrAlloc {
				t.Error("Cell of", places, a, "error", why)
			}
		}
	}
	u, places = long(1, api.MaxThreads)
	for thread := range places {
		places[thread].Cells = api.MaxSlots
	}
	if a, why := gen.Cell(u, places, api.MaxThreads-1, api.MaxSlots-1); a != api.MaxThreads*api.MaxSlots-1 || why != api.OK {
		t.Error("Cell:", a, "error", why)
	}
	if a, why := gen.Cell(api.Unit{}, nil, 0, 0); a != 0 || why != api.ErrRange {
		t.Error("Cell:", a, "error", why)
	}
}
