package gen_test

import (
	"fmt"
	"math/rand/v2"
	"slices"
	"testing"

	"stile/api"
	"stile/cfg"
	"stile/explore"
	"stile/fences"
	"stile/source"
	"stile/vm"
)

// drained runs a core, each store drained right behind it, till it has halted or has done so many instructions.
func drained(t *testing.T, m *vm.Machine, core, most int) bool {
	t.Helper()
	for range most {
		did, why := m.Run(core)
		if why == api.OK && did.Kind == api.DidStore {
			did, why = m.Drain(core)
		}
		if why != api.OK {
			t.Fatal(did, "error", why)
		}
		if did.Kind == api.DidHalt {
			return true
		}
	}
	return false
}

// 17.6: a thread alone prints what the source prints, and leaves the same variables; one that never ends does not halt.
func TestOneThread(t *testing.T) {
	r := rand.New(rand.NewPCG(17, 6))
	ends, others, prints := 0, 0, 0
	for range 3000 {
		u := anyUnit(t, r)
		u.Graphs = u.Graphs[:1]
		f, places := someFences(r, u), somePlaces(t, r, u)
		m, why := vm.New(generate(t, u, f, places, 1+r.IntN(api.MaxBuffer)))
		if why != api.OK {
			t.Fatal("New: error", why)
		}
		s, why := source.New(u)
		if why != api.OK {
			t.Fatal("New: error", why)
		}
		const most = 2000
		s.Run(make([]int, most))
		hasHalted := drained(t, m, 0, 6*most)
		if !s.Ended() {
			others++
			if len(s.Blocked()) > 0 && hasHalted {
				t.Fatal("a thread that waits for itself has halted")
			}
			continue
		}
		ends++
		prints += len(s.Prints())
		if !hasHalted || !m.Ended() || !slices.Equal(m.Prints(), s.Prints()) || !slices.Equal(m.Memory()[:len(u.Shared)], s.Memory()) {
			text, _ := cfg.Print(u)
			t.Fatalf("%v, %v, not %v, %v, with %v, %v of\n%s", m.Prints(), m.Memory(), s.Prints(), s.Memory(), f, places, text)
		}
		for lock := range u.Locks {
			if m.Memory()[len(u.Shared)+lock] != 0 {
				t.Fatal("a lock is held at the end")
			}
		}
	}
	if ends < 1500 || others < 100 || prints < 1500 {
		t.Error(ends, others, prints)
	}
}

// anyRun does steps by chance, till all is ended or there were so many; stores wait the longer, the lazier the buffers are.
func anyRun(t *testing.T, r *rand.Rand, o api.Object, most int) (api.End, bool) {
	t.Helper()
	m, why := vm.New(o)
	if why != api.OK {
		t.Fatal("New: error", why)
	}
	lazy := 1 + r.IntN(8)
	for range most {
		l := m.Ready()
		if len(l) == 0 {
			break
		}
		s := l[r.IntN(len(l))]
		if s.Kind == api.StepDrain && r.IntN(lazy) > 0 {
			s = l[r.IntN(len(l))]
		}
		if _, why := m.Step(s); why != api.OK {
			t.Fatal(s, "error", why)
		}
	}
	return api.End{Prints: m.Prints(), Memory: m.Memory()[:o.Shared], Ended: m.Ended()}, m.Ended()
}

// What is built with the fences that are needed ends as the source may end, whatever the schedule; without them it may end otherwise.
func TestEnds(t *testing.T) {
	r := rand.New(rand.NewPCG(17, 9))
	ends, weak := 0, 0
	for _, text := range []string{
		"shared x, y; thread a { x = 1; print y; } thread b { y = 1; print x; }",
		"shared x, y; thread a { x = 1; y = 1; } thread b { print y; print x; }",
		"shared g; lock l; thread a { lock l { g = g + 1; } } thread b { lock l { g = g + 1; } }",
		"shared g, y; lock l; thread a { lock l { g = 1; } print y; } thread b { y = 1; lock l { print g; } }",
		"shared x, y; thread a { local r; r = swap(x, 1); print y; } thread b { local r; r = swap(y, 1); print x; }",
		"shared x, y; thread a { local r; x = 1; r = y; y = r + 1; } thread b { local r; y = 4; r = x; x = r + 6; }",
		"shared x, y; lock l; thread a { local r; while (r < 2) { lock l { x = y + 1; } y = x; r = r + 1; } print y; } thread b { lock l { y = 5; } x = y; }",
	} {
		u := unit(t, text)
		want, why := explore.Ends(u, 10000)
		if why != api.OK {
			t.Fatal("Ends: error", why)
		}
		needed, _ := fences.Place(u, true)
		for n := range 1200 {
			f := needed
			if n%2 == 0 {
				f = bare(u)
			}
			o := generate(t, u, f, somePlaces(t, r, u), 1+r.IntN(3))
			e, hasEnded := anyRun(t, r, o, 2000)
			isOne := slices.ContainsFunc(want, func(x api.End) bool { return explore.Same(x, e) })
			switch {
			case hasEnded && isOne:
				ends++
			case hasEnded && n%2 == 0:
				weak++
			case hasEnded:
				t.Fatalf("%s: %v, with fences %v", text, e, f)
			}
		}
	}
	if ends < 6000 || weak < 50 {
		t.Error(ends, weak)
	}
}

// Of store buffering without fences both print 0; of message passing nobody sees the flag without the message, whatever the schedule.
func TestKnown(t *testing.T) {
	r := rand.New(rand.NewPCG(17, 10))
	shown := map[string]int{}
	for name, text := range map[string]string{
		"buffering": "shared x, y; thread a { x = 1; print y; } thread b { y = 1; print x; }",
		"passing":   "shared x, y; thread a { x = 1; y = 1; } thread b { print y; print x; }",
	} {
		u := unit(t, text)
		for range 2000 {
			e, _ := anyRun(t, r, generate(t, u, bare(u), assign(t, u, true), 2), 100)
			shown[fmt.Sprint(name, e.Prints)]++
		}
	}
	if shown["buffering[{0 0} {1 0}]"] == 0 || shown["buffering[{0 1} {1 1}]"] == 0 || shown["passing[{1 1} {1 0}]"] > 0 || shown["passing[{1 1} {1 1}]"] == 0 || shown["passing[{1 0} {1 1}]"] == 0 {
		t.Error(shown)
	}
}
