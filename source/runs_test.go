package source_test

import (
	"fmt"
	"math/rand/v2"
	"runtime"
	"slices"
	"strings"
	"testing"
	"time"

	"stile/api"
	"stile/cfg"
	"stile/source"
	"stile/words"
)

// model is the chapter's machine read anew: all that it has is its own.
type model struct {
	u      api.Unit
	at     []int
	slots  []map[int]int64
	memory map[int]int64
	holder map[int]int
	prints []api.Print
}

func newModel(u api.Unit) *model {
	x := &model{u: u, at: make([]int, len(u.Graphs)), memory: map[int]int64{}, holder: map[int]int{}}
	for range u.Graphs {
		x.slots = append(x.slots, map[int]int64{})
	}
	for i, d := range u.Shared {
		x.memory[i] = d.Word
	}
	return x
}

func (x *model) copy() *model {
	c := newModel(x.u)
	copy(c.at, x.at)
	for i, l := range x.slots {
		for n, w := range l {
			c.slots[i][n] = w
		}
	}
	for n, w := range x.memory {
		c.memory[n] = w
	}
	for n, i := range x.holder {
		c.holder[n] = i
	}
	c.prints = slices.Clone(x.prints)
	return c
}

func (x *model) node(thread int) api.Node { return x.u.Graphs[thread].Nodes[x.at[thread]] }

func (x *model) ended(thread int) bool { return x.node(thread).Kind == api.NodeEnd }

func (x *model) waits(thread int) bool {
	_, held := x.holder[x.node(thread).Thing]
	return x.node(thread).Kind == api.NodeLock && held
}

func (x *model) value(thread int, v api.Value) int64 {
	if v.IsSlot {
		return x.slots[thread][v.Slot]
	}
	return v.Word
}

func (x *model) step(thread int) (api.Acted, api.Errno) {
	if thread < 0 || thread >= len(x.at) {
		return api.Acted{}, api.ErrRange
	}
	if x.ended(thread) {
		return api.Acted{}, api.ErrEnded
	}
	if x.waits(thread) {
		return api.Acted{}, api.ErrBlocked
	}
	n := x.node(thread)
	did := api.Acted{Thread: thread, Node: x.at[thread], Kind: n.Kind}
	to := n.Next
	a, b := x.value(thread, n.A), x.value(thread, n.B)
	switch n.Kind {
	case api.NodeSet:
		did.Word = a
		if w, why := words.One(n.Op, a); why == api.OK {
			did.Word = w
		}
		if w, why := words.Do(n.Op, a, b); why == api.OK {
			did.Word = w
		}
		x.slots[thread][n.Slot] = did.Word
	case api.NodeLoad:
		did.Thing, did.Word = n.Thing, x.memory[n.Thing]
		x.slots[thread][n.Slot] = did.Word
	case api.NodeStore:
		did.Thing, did.Word = n.Thing, a
		x.memory[n.Thing] = a
	case api.NodeSwap:
		did.Thing, did.Word, did.Put = n.Thing, x.memory[n.Thing], a
		x.slots[thread][n.Slot], x.memory[n.Thing] = x.memory[n.Thing], a
	case api.NodeLock:
		did.Thing = n.Thing
		x.holder[n.Thing] = thread
	case api.NodeUnlock:
		did.Thing = n.Thing
		delete(x.holder, n.Thing)
	case api.NodePrint:
		did.Word = a
		x.prints = append(x.prints, api.Print{Thread: thread, Word: a})
	case api.NodeBranch:
		did.Word = a
		if a == 0 {
			to = n.Else
		}
	}
	x.at[thread] = to
	return did, api.OK
}

func (x *model) run(l []int) (int, api.Errno) {
	for i, thread := range l {
		if _, why := x.step(thread); why != api.OK {
			return i, why
		}
	}
	return len(l), api.OK
}

// advance answers how it stands then: the model itself, if nothing was done.
func (x *model) advance(thread int, classes []api.Class, most int) (*model, int, api.Errno) {
	if thread < 0 || thread >= len(x.at) || len(classes) != len(x.u.Shared) || most < 0 || most > api.MaxSteps {
		return x, 0, api.ErrRange
	}
	if x.ended(thread) {
		return x, 0, api.ErrEnded
	}
	c := x.copy()
	for n := 0; ; {
		if c.ended(thread) {
			return c, n, api.OK
		}
		if c.waits(thread) {
			return x, 0, api.ErrBlocked
		}
		if n++; n > most {
			return x, 0, api.ErrMany
		}
		did, _ := c.step(thread)
		switch did.Kind {
		case api.NodeLock, api.NodeUnlock, api.NodePrint:
			return c, n, api.OK
		case api.NodeLoad, api.NodeStore, api.NodeSwap:
			if classes[did.Thing].Kind == api.ClassRacy {
				return c, n, api.OK
			}
		}
	}
}

func (x *model) key() string {
	s := ""
	for i, g := range x.u.Graphs {
		s += fmt.Sprintf("%d,", x.at[i])
		for n := range g.Slots {
			s += fmt.Sprintf("%d,", x.slots[i][n])
		}
		s += "|"
	}
	for n := range x.u.Shared {
		s += fmt.Sprintf("%d,", x.memory[n])
	}
	s += "|"
	for n := range x.u.Locks {
		if i, held := x.holder[n]; held {
			s += fmt.Sprintf("%d,", i)
		} else {
			s += "-1,"
		}
	}
	s += "|"
	for _, p := range x.prints {
		s += fmt.Sprintf("%d:%d,", p.Thread, p.Word)
	}
	return s
}

// against holds all that a machine tells against what the model has.
func against(t *testing.T, m *source.Machine, x *model) {
	t.Helper()
	keyIs(t, m, x.key())
	over := true
	var waiting []int
	for i, g := range x.u.Graphs {
		l := m.Slots(i)
		for n := range l {
			if l[n] != x.slots[i][n] {
				t.Errorf("slots of %d: %v, not %v", i, l, x.slots[i])
			}
		}
		if m.At(i) != x.at[i] || len(l) != g.Slots || m.Can(i) != (!x.ended(i) && !x.waits(i)) {
			t.Error(i, m.At(i), l, m.Can(i))
		}
		over = over && x.ended(i)
		if x.waits(i) {
			waiting = append(waiting, i)
		}
	}
	if m.Ended() != over || !slices.Equal(m.Blocked(), waiting) || !slices.Equal(m.Prints(), x.prints) {
		t.Error(m.Ended(), m.Blocked(), m.Prints())
	}
	for n, w := range m.Memory() {
		if w != x.memory[n] {
			t.Error(m.Memory(), "not", x.memory)
		}
	}
	for n := range x.u.Locks {
		i, held := x.holder[n]
		if !held {
			i = -1
		}
		if m.Holder(n) != i {
			t.Error(n, m.Holder(n), "not", i)
		}
	}
}

// grown is a thread's text by chance, of shared x, y, z, locks l, m, k, locals r, s.
func grown(r *rand.Rand, wide int) string {
	pick := func(l ...string) string { return l[r.IntN(len(l))] }
	s := ""
	for range 1 + r.IntN(3) {
		kind := r.IntN(8)
		if wide == 0 {
			kind = 3 + r.IntN(5)
		}
		word := pick("0", "1", "x", "y", "z", "r", "s", "r + 1", "x - y", "!s", "-z")
		switch kind {
		case 0:
			s += "if (" + word + ") {" + grown(r, wide-1) + "} else {" + grown(r, wide-1) + "} "
		case 1:
			s += "while (" + word + ") {" + grown(r, wide-1) + "} "
		case 2:
			s += "lock " + pick("l", "m", "k") + " {" + grown(r, wide-1) + "} "
		case 3, 4:
			s += pick("x", "y", "z", "r", "s") + " = " + word + "; "
		case 5:
			s += pick("x", "r", "s") + " = swap(" + pick("x", "y", "z") + ", " + word + "); "
		case 6:
			s += "print " + word + "; "
		case 7:
			s += "skip; "
		}
	}
	return s
}

func grownText(r *rand.Rand) string {
	s := "shared x, y = 2, z; lock l, m, k; "
	for i := range 1 + r.IntN(3) {
		s += "thread " + string(rune('a'+i)) + " { local r, s; " + grown(r, 2) + "} "
	}
	return s
}

// made is a right unit by chance, such as no program has: links lead anywhere.
func made(r *rand.Rand) api.Unit {
	for {
		u := api.Unit{Shared: []api.Decl{{Name: "x", Word: r.Int64N(5) - 2}, {Name: "y"}}, Locks: []api.Decl{{Name: "l"}, {Name: "m"}}}
		for i := range 1 + r.IntN(3) {
			g := api.Graph{Name: string(rune('a' + i)), Slots: 1 + r.IntN(3)}
			count := 1 + r.IntN(6)
			for range count {
				g.Nodes = append(g.Nodes, madeNode(r, g.Slots, count))
			}
			u.Graphs = append(u.Graphs, g)
		}
		if why, _, _ := cfg.Check(u); why == api.OK {
			return u
		}
	}
}

func madeNode(r *rand.Rand, slots, count int) api.Node {
	value := func() api.Value {
		if r.IntN(2) == 0 {
			return api.Value{Word: r.Int64N(5) - 2}
		}
		return api.Value{IsSlot: true, Slot: r.IntN(slots)}
	}
	n := api.Node{Kind: api.NodeKind(1 + r.IntN(int(api.NodeCount)-1)), Origin: r.IntN(50), Next: r.IntN(count)}
	switch n.Kind {
	case api.NodeSet:
		n.Slot, n.Op, n.A = r.IntN(slots), api.Op(r.IntN(int(api.OpCount))), value()
		if words.Two(n.Op) {
			n.B = value()
		}
	case api.NodeLoad:
		n.Slot, n.Thing = r.IntN(slots), r.IntN(2)
	case api.NodeStore:
		n.Thing, n.A = r.IntN(2), value()
	case api.NodeSwap:
		n.Slot, n.Thing, n.A = r.IntN(slots), r.IntN(2), value()
	case api.NodeLock, api.NodeUnlock:
		n.Thing = r.IntN(2)
	case api.NodePrint:
		n.A = value()
	case api.NodeBranch:
		n.A, n.Else = value(), r.IntN(count)
	case api.NodeEnd:
		n.Next = 0
	}
	return n
}

// anyUnit is a right unit by chance: a program's, or one made by hand.
func anyUnit(t *testing.T, r *rand.Rand) api.Unit {
	if r.IntN(2) == 0 {
		return made(r)
	}
	return unit(t, grownText(r))
}

// 7.1 to 7.4, 7.6: several copies that do by chance what one may ask for, each held against a model of its own.
func TestAgainstModel(t *testing.T) {
	r := rand.New(rand.NewPCG(7, 1))
	seen := map[string]int{}
	for range 1500 {
		u := anyUnit(t, r)
		machines, models := []*source.Machine{ahead(t, u)}, []*model{newModel(u)}
		for range 60 {
			i := r.IntN(len(machines))
			m, x := machines[i], models[i]
			thread := r.IntN(len(u.Graphs)+2) - 1
			switch what := r.IntN(10); {
			case what == 0 && len(machines) < 4:
				machines, models = append(machines, m.Copy()), append(models, x.copy())
			case what < 3:
				classes := make([]api.Class, len(u.Shared)+(r.IntN(30)+1)/30)
				for n := range classes {
					classes[n].Kind = api.ClassKind(r.IntN(int(api.ClassCount)))
				}
				most := r.IntN(14) - 1
				y, want, whyWant := x.advance(thread, classes, most)
				n, why := m.Advance(thread, classes, most)
				if n != want || why != whyWant {
					t.Errorf("Advance(%d, %v, %d): %d, error %d, not %d, %d", thread, classes, most, n, why, want, whyWant)
				}
				models[i] = y
				seen[fmt.Sprint("advance ", why)]++
			case what < 5:
				l := make([]int, r.IntN(6))
				for n := range l {
					l[n] = r.IntN(len(u.Graphs))
				}
				want, whyWant := x.run(l)
				if n, why := m.Run(l); n != want || why != whyWant {
					t.Errorf("Run(%v): %d, error %d, not %d, %d", l, n, why, want, whyWant)
				}
			default:
				want, whyWant := x.step(thread)
				did, why := m.Step(thread)
				if did != want || why != whyWant {
					t.Errorf("Step(%d): %v, error %d, not %v, %d", thread, did, why, want, whyWant)
				}
				seen[fmt.Sprint("step ", why)]++
				seen[fmt.Sprint("kind ", did.Kind)]++
			}
			for i := range machines {
				against(t, machines[i], models[i])
			}
			if t.Failed() {
				s, _ := cfg.Print(u)
				t.Fatal(s)
			}
		}
	}
	for _, what := range strings.Split("step 0,step 2,step 70,step 71,advance 0,advance 2,advance 3,advance 70,advance 71,kind 1,kind 2,kind 3,kind 4,kind 5,kind 6,kind 7,kind 8", ",") {
		if seen[what] < 100 {
			t.Error("only", seen[what], "times", what)
		}
	}
}

// touches is what an action touches: a variable or a lock; "" is nothing.
func touches(did api.Acted) string {
	switch did.Kind {
	case api.NodeLoad, api.NodeStore, api.NodeSwap:
		return fmt.Sprint("variable ", did.Thing)
	case api.NodeLock, api.NodeUnlock:
		return fmt.Sprint("lock ", did.Thing)
	}
	return ""
}

// 7.8: what does not touch the same thing, and does not print twice, may change about.
func TestAside(t *testing.T) {
	r := rand.New(rand.NewPCG(7, 8))
	aside, other := 0, 0
	for range 3000 {
		u := anyUnit(t, r)
		m := ahead(t, u)
		for range 30 {
			a, b := r.IntN(len(u.Graphs)), r.IntN(len(u.Graphs))
			if a != b && m.Can(a) && m.Can(b) {
				ab, ba := m.Copy(), m.Copy()
				did, _ := ab.Step(a)
				then, _ := ba.Step(b)
				ab.Step(b)
				ba.Step(a)
				apart := touches(did) == "" || touches(did) != touches(then)
				if apart && (did.Kind != api.NodePrint || then.Kind != api.NodePrint) {
					aside++
					keyIs(t, ab, ba.Key())
				} else if ab.Key() != ba.Key() {
					other++
				}
			}
			m.Step(a)
		}
	}
	if aside < 5000 || other < 500 {
		t.Error(aside, other)
	}
}

// 7.7, 7.10: locks have one holder, who alone gives them back; who waits goes on no sooner.
func TestHolders(t *testing.T) {
	r := rand.New(rand.NewPCG(7, 7))
	taken, over, selves := 0, 0, 0
	for range 6000 {
		u := anyUnit(t, r)
		m := ahead(t, u)
		for range 60 {
			var before []int
			for n := range u.Locks {
				before = append(before, m.Holder(n))
			}
			waiting := m.Blocked()
			did, _ := m.Step(r.IntN(len(u.Graphs)))
			for n, who := range before {
				switch now := m.Holder(n); {
				case now == who:
				case who == -1 && did.Kind == api.NodeLock && did.Thing == n && now == did.Thread:
					taken++
				case now == -1 && did.Kind == api.NodeUnlock && did.Thing == n && who == did.Thread:
				default:
					t.Fatalf("lock %d: %d, then %d, by %v", n, who, now, did)
				}
			}
			for _, thread := range waiting {
				lock := u.Graphs[thread].Nodes[m.At(thread)].Thing
				if m.Can(thread) && (did.Kind != api.NodeUnlock || did.Thing != lock || did.Thread == thread) {
					t.Fatal("nobody gave the lock back for which one has waited", did)
				}
				if before[lock] == thread {
					selves++
				}
			}
		}
		if m.Ended() {
			over++
			for n := range u.Locks {
				if m.Holder(n) != -1 {
					t.Error("all have ended, one holds a lock:", m.Key())
				}
			}
		}
	}
	if taken < 2000 || over < 500 || selves < 200 {
		t.Error(taken, over, selves)
	}
}

// 7.5: what was handed in is neither changed nor kept; what is answered is new; copies have nothing to do with one another.
func TestNewMemory(t *testing.T) {
	text := "shared x = 1, y = 2; lock l; thread a { local r; r = x; print r; lock l { print y; } } thread b { lock l { y = 5; } print 3; }"
	u, same := unit(t, text), unit(t, text)
	m := ahead(t, u)
	if !cfg.Same(u, same) {
		t.Error("New has changed the unit")
	}
	for i := range u.Graphs {
		clear(u.Graphs[i].Nodes)
		u.Graphs[i].Slots = 0
	}
	clear(u.Shared)
	clear(u.Locks)
	clear(u.Graphs)
	schedule, classes := []int{1, 0, 0, 0}, []api.Class{{Kind: api.ClassRacy, Thread: 7}, {Lock: 3}}
	steps(t, m, schedule...)
	c := m.Copy()
	c.Advance(1, classes, 9)
	if !slices.Equal(schedule, []int{1, 0, 0, 0}) || !slices.Equal(classes, []api.Class{{Kind: api.ClassRacy, Thread: 7}, {Lock: 3}}) {
		t.Error("lists that were handed in are changed")
	}
	want := "3,1,1,0,|1,|1,2,|1,|0:1,"
	keyIs(t, m, want)
	for range 2 {
		for _, l := range [][]int64{m.Memory(), m.Slots(0), m.Slots(1)} {
			for i := range l {
				l[i] = 99
			}
			_ = append(l, 99)
		}
		clear(append(m.Prints(), api.Print{Thread: 9}))
		l := append(m.Blocked(), 9)
		l[0] = 9
		keyIs(t, m, want)
	}
	if l := m.Blocked(); !slices.Equal(l, []int{0}) {
		t.Error(l)
	}
	clear(schedule)
	clear(classes)
	// A machine and its copies, one more of which is a copy's: each goes on alone.
	keyIs(t, c, "3,1,1,0,|3,|1,5,|-1,|0:1,")
	d := c.Copy()
	steps(t, d, 0, 0, 0)
	steps(t, c, 1)
	steps(t, m, 1, 1, 1)
	keyIs(t, c, "3,1,1,0,|4,|1,5,|-1,|0:1,1:3,")
	keyIs(t, d, "6,1,1,5,|3,|1,5,|0,|0:1,0:5,")
	keyIs(t, m, "3,1,1,0,|4,|1,5,|-1,|0:1,1:3,")
	steps(t, c, 0, 0)
	keyIs(t, c, "5,1,1,5,|4,|1,5,|0,|0:1,1:3,")
	keyIs(t, m, "3,1,1,0,|4,|1,5,|-1,|0:1,1:3,")
}

// A refused Advance leaves alone what copies have, and the machine goes on.
func TestAdvanceAndCopies(t *testing.T) {
	m := machine(t, "thread a { local r; while (1) { r = r + 1; } }")
	steps(t, m, 0, 0, 0)
	c := m.Copy()
	for range 3 {
		m.Advance(0, nil, 1000)
		keyIs(t, m, "0,1,1,|||")
		keyIs(t, c, "0,1,1,|||")
	}
	steps(t, m, 0, 0, 0)
	keyIs(t, m, "0,2,2,|||")
	keyIs(t, c, "0,1,1,|||")
	steps(t, c, 0, 0)
	keyIs(t, m, "0,2,2,|||")
	keyIs(t, c, "2,1,2,|||")
}

// P3, P4: the same answers at each time, and from many at one time, copies of one machine among them; no goroutine is left.
func TestAlways(t *testing.T) {
	before := runtime.NumGoroutine()
	u := unit(t, "shared x, y; lock l; thread a { local r; while (r < 20) { r = r + 1; lock l { x = r; } } } thread b { local s; while (s < 20) { s = s + 1; y = swap(x, s); print y; } }")
	tell := func(m *source.Machine) string {
		all := ""
		r := rand.New(rand.NewPCG(1, 1))
		for range 300 {
			did, why := m.Step(r.IntN(3))
			n, no := m.Advance(r.IntN(2), make([]api.Class, 2), r.IntN(9))
			all += fmt.Sprint(did, why, n, no, m.Key(), m.Prints(), m.Memory(), m.Slots(0), m.Blocked())
		}
		return all
	}
	m := steps(t, ahead(t, u), 0, 0, 1, 1)
	var copies []*source.Machine
	for range 8 {
		copies = append(copies, m.Copy())
	}
	done := make(chan string)
	for _, c := range copies {
		go func() { done <- tell(c) }()
	}
	want := tell(m)
	for range copies {
		if <-done != want {
			t.Error("two answers to one question")
		}
	}
	for range 1000 {
		if runtime.NumGoroutine() <= before {
			return
		}
		time.Sleep(time.Millisecond)
	}
	t.Error("goroutines are left")
}
