package cfg_test

import (
	"fmt"
	"math/rand/v2"
	"runtime"
	"slices"
	"strings"
	"testing"
	"time"

	"stile/api"
	"stile/cfg"
	"stile/check"
	"stile/words"
)

// grown is a text of statements by chance, of shared x, y, locks l, m, locals r, s.
func grown(r *rand.Rand, wide int) string {
	s := ""
	for range r.IntN(4) {
		one := func() string { return []string{"x", "y", "r", "s"}[r.IntN(4)] }
		kind := r.IntN(8)
		if wide == 0 {
			kind = 4 + r.IntN(4)
		}
		switch kind {
		case 0:
			s += "if (" + grownExpr(r, 2) + ") {" + grown(r, wide-1) + "} "
		case 1:
			s += "if (" + grownExpr(r, 2) + ") {" + grown(r, wide-1) + "} else {" + grown(r, wide-1) + "} "
		case 2:
			s += "while (" + grownExpr(r, 2) + ") {" + grown(r, wide-1) + "} "
		case 3:
			s += "lock " + []string{"l", "m"}[r.IntN(2)] + " {" + grown(r, wide-1) + "} "
		case 4:
			s += one() + " = " + grownExpr(r, 3) + "; "
		case 5:
			s += one() + " = swap(" + []string{"x", "y"}[r.IntN(2)] + ", " + grownExpr(r, 2) + "); "
		case 6:
			s += "print " + grownExpr(r, 3) + "; "
		case 7:
			s += "skip; "
		}
	}
	return s
}

func grownExpr(r *rand.Rand, wide int) string {
	kind := r.IntN(6)
	if wide == 0 {
		kind = r.IntN(2)
	}
	switch kind {
	case 0:
		return []string{"0", "1", "7"}[r.IntN(3)]
	case 1, 2:
		return []string{"x", "y", "r", "s"}[r.IntN(4)]
	case 3:
		return []string{"-", "!"}[r.IntN(2)] + "(" + grownExpr(r, wide-1) + ")"
	}
	return "(" + grownExpr(r, wide-1) + ") " + words.Show(api.Op(1+r.IntN(16))) + " (" + grownExpr(r, wide-1) + ")"
}

const around = "shared x = 1, y; lock l, m; thread a { local r, s; "

// teller notes what a thread does; what it reads comes from outside, by chance. It gives up when there is much.
type teller struct {
	r     *rand.Rand
	lines []string
}

type enough struct{}

func (x *teller) note(parts ...any) {
	x.lines = append(x.lines, strings.TrimSpace(fmt.Sprintln(parts...)))
	if len(x.lines) >= 150 {
		panic(enough{})
	}
}

// read is a word that is read: rather often one that has been put there before.
func (x *teller) read() int64 { return x.r.Int64N(4) - 1 }

// does is what is done, in lines.
func does(seed uint64, run func(x *teller)) []string {
	x := &teller{r: rand.New(rand.NewPCG(seed, 9))}
	func() {
		defer func() {
			if given := recover(); given != nil && given != any(enough{}) {
				panic(given)
			}
		}()
		run(x)
		x.note("end")
	}()
	return x.lines
}

// byTree does a thread's statements as the tree has them.
type byTree struct {
	*teller
	p      api.Program
	locals map[string]int64
}

func (x *byTree) expr(e api.Expr) int64 {
	switch e.Kind {
	case api.ExprNumber:
		return e.Word
	case api.ExprName:
		if w, is := x.locals[e.Name]; is {
			return w
		}
		w := x.read()
		x.note("load", e.Name, w)
		return w
	case api.ExprUnary:
		w, _ := words.One(e.Op, x.expr(e.Kids[0]))
		return w
	}
	left := x.expr(e.Kids[0])
	w, _ := words.Do(e.Op, left, x.expr(e.Kids[1]))
	return w
}

func (x *byTree) set(name string, w int64) {
	if _, is := x.locals[name]; is {
		x.locals[name] = w
		return
	}
	x.note("store", name, w)
}

func (x *byTree) block(l []api.Stmt) {
	for _, s := range l {
		switch s.Kind {
		case api.StmtAssign:
			x.set(s.Name, x.expr(s.E[0]))
		case api.StmtSwap:
			put := x.expr(s.E[0])
			saw := x.read()
			x.note("swap", s.Other, saw, put)
			x.set(s.Name, saw)
		case api.StmtIf:
			w := x.expr(s.E[0])
			x.note("branch", w)
			if w != 0 {
				x.block(s.Body)
			} else {
				x.block(s.Else)
			}
		case api.StmtWhile:
			for {
				w := x.expr(s.E[0])
				x.note("branch", w)
				if w == 0 {
					break
				}
				x.block(s.Body)
			}
		case api.StmtLock:
			x.note("lock", s.Name)
			x.block(s.Body)
			x.note("unlock", s.Name)
		case api.StmtPrint:
			x.note("print", x.expr(s.E[0]))
		}
	}
}

// byGraph does the same as the graph has it.
func (x *teller) byGraph(u api.Unit, g api.Graph) {
	slots := make([]int64, g.Slots)
	value := func(v api.Value) int64 {
		if v.IsSlot {
			return slots[v.Slot]
		}
		return v.Word
	}
	for at := 0; ; {
		n := g.Nodes[at]
		at = n.Next
		switch n.Kind {
		case api.NodeSet:
			slots[n.Slot] = value(n.A)
			if w, why := words.One(n.Op, value(n.A)); why == api.OK {
				slots[n.Slot] = w
			}
			if w, why := words.Do(n.Op, value(n.A), value(n.B)); why == api.OK {
				slots[n.Slot] = w
			}
		case api.NodeLoad:
			slots[n.Slot] = x.read()
			x.note("load", u.Shared[n.Thing].Name, slots[n.Slot])
		case api.NodeStore:
			x.note("store", u.Shared[n.Thing].Name, value(n.A))
		case api.NodeSwap:
			put := value(n.A)
			slots[n.Slot] = x.read()
			x.note("swap", u.Shared[n.Thing].Name, slots[n.Slot], put)
		case api.NodeLock:
			x.note("lock", u.Locks[n.Thing].Name)
		case api.NodeUnlock:
			x.note("unlock", u.Locks[n.Thing].Name)
		case api.NodePrint:
			x.note("print", value(n.A))
		case api.NodeBranch:
			x.note("branch", value(n.A))
			if value(n.A) == 0 {
				at = n.Else
			}
		case api.NodeEnd:
			return
		}
	}
}

// 6.7: programs by chance: their units are right; by graph a thread does what it does by its tree, whatever it reads.
func TestRuns(t *testing.T) {
	r := rand.New(rand.NewPCG(6, 7))
	seen := map[string]int{}
	for range 3000 {
		s := around + grown(r, 3) + "}"
		p := program(t, s)
		u := lowered(t, s)
		for range 3 {
			seed := r.Uint64()
			want := does(seed, func(x *teller) {
				(&byTree{teller: x, p: p, locals: map[string]int64{"r": 0, "s": 0}}).block(p.Threads[0].Body)
			})
			got := does(seed, func(x *teller) { x.byGraph(u, u.Graphs[0]) })
			if !slices.Equal(got, want) {
				t.Fatalf("%s\n%s\n%q\nnot\n%q", s, text(t, u), got, want)
			}
			for _, line := range got {
				seen[strings.Fields(line)[0]]++
			}
		}
	}
	for _, deed := range []string{"load", "store", "swap", "lock", "unlock", "print", "branch", "end"} {
		if seen[deed] < 2000 {
			t.Error("only", seen[deed], "times", deed)
		}
	}
}

// whiles is of each node that statements come to, in order, in how many StmtWhiles it lies.
func whiles(p api.Program, l []api.Stmt, deep int) []int {
	var d []int
	for _, s := range l {
		within := deep
		if s.Kind == api.StmtWhile {
			within++
		}
		nodes := func(n int) { d = append(d, slices.Repeat([]int{within}, n)...) }
		for _, e := range s.E {
			nodes(parts(p, e))
		}
		switch s.Kind {
		case api.StmtSwap:
			nodes(1)
			if check.Local(p, 0, s.Name) < 0 {
				nodes(1)
			}
		case api.StmtAssign, api.StmtPrint, api.StmtIf, api.StmtWhile, api.StmtLock:
			nodes(1)
		}
		d = append(d, whiles(p, s.Body, within)...)
		d = append(d, whiles(p, s.Else, within)...)
		if s.Kind == api.StmtLock {
			nodes(1)
		}
	}
	return d
}

// parts is how many nodes an expression's value has.
func parts(p api.Program, e api.Expr) int {
	n := 0
	if e.Kind == api.ExprUnary || e.Kind == api.ExprBinary || e.Kind == api.ExprName && check.Local(p, 0, e.Name) < 0 {
		n = 1
	}
	for _, k := range e.Kids {
		n += parts(p, k)
	}
	return n
}

// 6.9: all nodes of a program are reached, and lie in as many loops as there are StmtWhiles round them.
func TestDepths(t *testing.T) {
	r := rand.New(rand.NewPCG(6, 9))
	seen := map[int]int{}
	for range 6000 {
		s := around + grown(r, 4) + "}"
		p := program(t, s)
		g := lowered(t, s).Graphs[0]
		want := append(whiles(p, p.Threads[0].Body, 0), 0)
		if got := cfg.Depth(g); !slices.Equal(got, want) {
			t.Fatal(s, got, "not", want)
		}
		if slices.Contains(cfg.Reached(g), false) {
			t.Fatal(s, "not all nodes are reached")
		}
		whole(t, g)
		seen[slices.Max(want)]++
	}
	if seen[0] < 100 || seen[1] < 100 || seen[2] < 100 || seen[3] < 50 {
		t.Error("so deep, so often:", seen)
	}
	deep := lowered(t, around+strings.Repeat("while (x) { ", api.MaxDeep-1)+strings.Repeat("}", api.MaxDeep)).Graphs[0]
	if d := cfg.Depth(deep); slices.Max(d) != api.MaxDeep-1 {
		t.Error(d)
	}
}

// P3, P4: the same answers at each time, and from many at one time; no goroutine is left.
func TestAlways(t *testing.T) {
	ahead := runtime.NumGoroutine()
	p := program(t, around+"lock l { while (x) { lock m { r = swap(y, !r); } } } if (r) { x = 1; } }")
	tell := func() string {
		u, why := cfg.Lower(p)
		s, no := cfg.Print(u)
		g := u.Graphs[0]
		h, ok := cfg.Held(g)
		all := fmt.Sprint(u, why, s, no, h, ok, cfg.Reached(g), cfg.Ahead(g), cfg.Dominators(g), cfg.Depth(g), cfg.Show(u, 0, 3))
		u.Graphs[0].Nodes[0].Thing = 1
		wrong, i, node := cfg.Check(u)
		return fmt.Sprint(all, wrong, i, node)
	}
	done := make(chan string)
	for range 8 {
		go func() {
			all := ""
			for range 30 {
				all = tell()
			}
			done <- all
		}()
	}
	want := tell()
	for range 8 {
		if <-done != want {
			t.Error("two answers to one question")
		}
	}
	for range 1000 {
		if runtime.NumGoroutine() <= ahead {
			return
		}
		time.Sleep(time.Millisecond)
	}
	t.Error("goroutines are left")
}
