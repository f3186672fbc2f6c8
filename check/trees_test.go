package check_test

import (
	"fmt"
	"math"
	"math/rand/v2"
	"reflect"
	"runtime"
	"slices"
	"testing"
	"time"
	"unsafe"

	"stile/api"
	"stile/check"
	"stile/lexer"
	"stile/parse"
	"stile/words"
)

// grower makes trees by chance, each thing with a place of its own.
type grower struct {
	r  *rand.Rand
	at int
}

func (g *grower) place() int {
	g.at++
	return g.at
}

// pick is one of some; now and then an odd one.
func (g *grower) pick(usual, odd []string) string {
	if g.r.IntN(30) == 0 {
		return odd[g.r.IntN(len(odd))]
	}
	return usual[g.r.IntN(len(usual))]
}

func (g *grower) decl(name string) api.Decl {
	d := api.Decl{Name: name, At: g.place()}
	if g.r.IntN(40) == 0 {
		d.Word = []int64{1, -5, math.MinInt64}[g.r.IntN(3)]
	}
	return d
}

func (g *grower) decls(some, odd []string) []api.Decl {
	var l []api.Decl
	for _, s := range some {
		if g.r.IntN(12) > 0 {
			l = append(l, g.decl(s))
		}
	}
	if g.r.IntN(20) == 0 {
		l = append(l, g.decl(odd[g.r.IntN(len(odd))]))
	}
	return l
}

var oddNames = []string{"", "if", "x", "l", "a", "b", "r", "s", "q", "p"}

func (g *grower) program() api.Program {
	p := api.Program{Shared: g.decls([]string{"x", "y"}, oddNames), Locks: g.decls([]string{"l", "m"}, oddNames)}
	for _, s := range []string{"a", "b", "c"}[:g.r.IntN(4)] {
		p.Threads = append(p.Threads, api.Thread{Name: g.pick([]string{s}, oddNames), At: g.place(), Locals: g.decls([]string{"r", "s"}, oddNames), Body: g.block(2)})
	}
	return p
}

func (g *grower) block(wide int) []api.Stmt {
	var l []api.Stmt
	for range g.r.IntN(wide + 1) {
		l = append(l, g.stmt(wide))
	}
	return l
}

func (g *grower) stmt(wide int) api.Stmt {
	s := api.Stmt{Kind: api.StmtKind(1 + g.r.IntN(int(api.StmtCount)-1)), At: g.place()}
	if wide == 0 {
		s.Kind = api.StmtPrint
	}
	variables := []string{"x", "y", "r", "s"}
	switch s.Kind {
	case api.StmtAssign:
		s.Name = g.pick(variables, oddNames)
	case api.StmtSwap:
		s.Name, s.Other = g.pick(variables, oddNames), g.pick([]string{"x", "y"}, oddNames)
	case api.StmtLock:
		s.Name = g.pick([]string{"l", "m"}, oddNames)
	}
	if s.Kind != api.StmtLock && s.Kind != api.StmtSkip {
		s.E = []api.Expr{g.expr(wide)}
	}
	if s.Kind == api.StmtIf || s.Kind == api.StmtWhile || s.Kind == api.StmtLock {
		s.Body = g.block(wide - 1)
	}
	if s.Kind == api.StmtIf {
		s.Else = g.block(wide - 1)
	}
	if g.r.IntN(60) == 0 {
		g.spoil(&s)
	}
	return s
}

func (g *grower) spoil(s *api.Stmt) {
	switch g.r.IntN(6) {
	case 0:
		s.Kind = api.StmtKind(g.r.IntN(10))
	case 1:
		s.E = append(s.E, g.expr(0))
	case 2:
		s.E = nil
	case 3:
		s.Name = oddNames[g.r.IntN(len(oddNames))]
	case 4:
		s.Other = oddNames[g.r.IntN(len(oddNames))]
	case 5:
		s.Else = append(s.Else, api.Stmt{Kind: api.StmtSkip, At: g.place()})
	}
}

func (g *grower) expr(wide int) api.Expr {
	e := api.Expr{Kind: api.ExprKind(1 + g.r.IntN(4)), At: g.place()}
	if wide == 0 {
		e.Kind = api.ExprKind(1 + g.r.IntN(2))
	}
	switch e.Kind {
	case api.ExprNumber:
		e.Word = g.r.Int64N(9)
	case api.ExprName:
		e.Name = g.pick([]string{"x", "y", "r", "s"}, oddNames)
	case api.ExprUnary:
		e.Op = []api.Op{api.OpMinus, api.OpNot}[g.r.IntN(2)]
		e.Kids = []api.Expr{g.expr(wide - 1)}
	case api.ExprBinary:
		e.Op = api.Op(1 + g.r.IntN(16))
		e.Kids = []api.Expr{g.expr(wide - 1), g.expr(wide - 1)}
	}
	if g.r.IntN(100) == 0 {
		switch g.r.IntN(4) {
		case 0:
			e.Kind = api.ExprKind(g.r.IntN(7))
		case 1:
			e.Op = api.Op(g.r.IntN(22))
		case 2:
			e.Word -= 3
		case 3:
			e.Kids = append(e.Kids, g.expr(0))
		}
	}
	return e
}

// asked is a thing of the walk, and the rules that it breaks.
type asked struct {
	at    int
	rules []int
}

// told is chapter 5's table, read anew: all things in the order of the walk with all rules that each breaks.
type told struct {
	p     api.Program
	t     api.Thread
	ahead []string // the names at the top that the walk has come by
	all   []asked
}

func (x *told) add(at int, broken map[int]bool) {
	a := asked{at: at}
	for rule, is := range broken {
		if is {
			a.rules = append(a.rules, rule)
		}
	}
	x.all = append(x.all, a)
}

func has(l []api.Decl, name string) bool {
	return slices.ContainsFunc(l, func(d api.Decl) bool { return d.Name == name })
}

func (x *told) isThread(name string) bool {
	return slices.ContainsFunc(x.p.Threads, func(t api.Thread) bool { return t.Name == name })
}

func (x *told) isAny(name string) bool {
	return has(x.p.Shared, name) || has(x.p.Locks, name) || x.isThread(name) || has(x.t.Locals, name)
}

func (x *told) isVariable(name string) bool { return has(x.t.Locals, name) || has(x.p.Shared, name) }

func (x *told) top(name string, at, place, most int, wrong bool) {
	x.add(at, map[int]bool{1: !lexer.Name(name), 2: slices.Contains(x.ahead, name), 3: place >= most, 4: wrong})
	x.ahead = append(x.ahead, name)
}

func (x *told) program() {
	for i, d := range x.p.Shared {
		x.top(d.Name, d.At, i, 64, d.Word == math.MinInt64)
	}
	for i, d := range x.p.Locks {
		x.top(d.Name, d.At, i, 16, d.Word != 0)
	}
	for i, t := range x.p.Threads {
		x.t = t
		x.top(t.Name, t.At, i, 8, false)
		for j, d := range t.Locals {
			x.add(d.At, map[int]bool{1: !lexer.Name(d.Name), 2: has(t.Locals[:j], d.Name) || has(x.p.Shared, d.Name) || has(x.p.Locks, d.Name), 3: j >= 64, 4: d.Word != 0})
		}
		x.block(t.Body, 1)
	}
}

func (x *told) block(l []api.Stmt, deep int) {
	for _, s := range l {
		broken := map[int]bool{7: deep > 64}
		names := s.Name != "" || s.Other != ""
		switch s.Kind {
		case api.StmtAssign:
			broken[4] = s.Other != "" || len(s.E) != 1 || len(s.Body)+len(s.Else) > 0
			broken[5] = !x.isAny(s.Name)
			broken[6] = !x.isVariable(s.Name)
		case api.StmtSwap:
			broken[4] = len(s.E) != 1 || len(s.Body)+len(s.Else) > 0
			broken[5] = !x.isAny(s.Name) || !x.isAny(s.Other)
			broken[6] = !x.isVariable(s.Name) || !has(x.p.Shared, s.Other) || has(x.t.Locals, s.Other)
		case api.StmtIf:
			broken[4] = names || len(s.E) != 1
		case api.StmtWhile:
			broken[4] = names || len(s.E) != 1 || len(s.Else) > 0
		case api.StmtLock:
			broken[4] = s.Other != "" || len(s.E)+len(s.Else) > 0
			broken[5] = !x.isAny(s.Name)
			broken[6] = !has(x.p.Locks, s.Name)
		case api.StmtPrint:
			broken[4] = names || len(s.E) != 1 || len(s.Body)+len(s.Else) > 0
		case api.StmtSkip:
			broken[4] = names || len(s.E)+len(s.Body)+len(s.Else) > 0
		default:
			broken[4] = true
		}
		x.add(s.At, broken)
		x.exprs(s.E, 1)
		x.block(s.Body, deep+1)
		x.block(s.Else, deep+1)
	}
}

func (x *told) exprs(l []api.Expr, deep int) {
	for _, e := range l {
		broken := map[int]bool{7: deep > 64}
		_, one := words.One(e.Op, 0)
		switch e.Kind {
		case api.ExprNumber:
			broken[4] = e.Word < 0 || e.Op != 0 || e.Name != "" || len(e.Kids) > 0
		case api.ExprName:
			broken[4] = e.Word != 0 || e.Op != 0 || len(e.Kids) > 0
			broken[5] = !x.isAny(e.Name)
			broken[6] = !x.isVariable(e.Name)
		case api.ExprUnary:
			broken[4] = e.Word != 0 || e.Name != "" || one != api.OK || len(e.Kids) != 1
		case api.ExprBinary:
			broken[4] = e.Word != 0 || e.Name != "" || !words.Two(e.Op) || len(e.Kids) != 2
		default:
			broken[4] = true
		}
		x.add(e.At, broken)
		x.exprs(e.Kids, deep+1)
	}
}

// faultOf is the fault of a tree, by the table.
func faultOf(p api.Program) api.Fault {
	x := &told{p: p}
	x.program()
	for _, a := range x.all {
		if len(a.rules) > 0 {
			return api.Fault{At: a.at, Rule: slices.Min(a.rules)}
		}
	}
	return api.Fault{}
}

// 5.1: trees by chance, right and wrong ones, held against the chapter's table.
func TestAgainstTable(t *testing.T) {
	g := &grower{r: rand.New(rand.NewPCG(5, 1))}
	seen := map[int]int{}
	for range 20000 {
		p := g.program()
		want := faultOf(p)
		seen[want.Rule]++
		if want.Rule == 0 {
			right(t, p)
		} else {
			wrong(t, p, want)
		}
		if t.Failed() {
			t.FailNow()
		}
	}
	if seen[0] < 3000 || seen[1] < 100 || seen[2] < 100 || seen[4] < 100 || seen[5] < 100 || seen[6] < 100 {
		t.Error("of each rule:", seen)
	}
}

// programs are programs by chance.
func programs(seed uint64, n int) []api.Program {
	g := &grower{r: rand.New(rand.NewPCG(5, seed))}
	var l []api.Program
	for len(l) < n {
		if p := g.program(); faultOf(p).Rule == 0 {
			l = append(l, p)
		}
	}
	return l
}

// 5.6: renamed by chance, it is a program; back it is as it was; the touches stay.
func TestRenamed(t *testing.T) {
	for _, p := range programs(2, 1500) {
		for _, old := range []string{"x", "l", "a", "b", "r", "s"} {
			q, why := check.Rename(p, old, "fresh")
			there := (&told{p: p}).isAny(old)
			for _, th := range p.Threads {
				there = there || has(th.Locals, old)
			}
			if !there {
				if why != api.ErrName || !reflect.DeepEqual(q, api.Program{}) {
					t.Fatal("Rename of what is not there:", old, p, why)
				}
				continue
			}
			back, no := check.Rename(q, "fresh", old)
			if why != api.OK || no != api.OK || !reflect.DeepEqual(back, p) || parse.Same(p, q) || faultOf(q).Rule != 0 {
				t.Fatal(old, p, q, back, why, no)
			}
			right(t, q)
			for i := range p.Threads {
				r, w := check.Touches(p, i)
				if s, v := check.Touches(q, i); !slices.Equal(r, s) || !slices.Equal(w, v) {
					t.Fatal(p, i, r, w, s, v)
				}
			}
		}
	}
}

// shorter hands on a tree with one of its statements left out, each in turn.
func shorter(l *[]api.Stmt, do func()) {
	all := *l
	for i := range all {
		*l = slices.Concat(all[:i], all[i+1:])
		do()
	}
	*l = all
	for i := range all {
		shorter(&all[i].Body, do)
		shorter(&all[i].Else, do)
	}
}

// 5.7: without one of its threads, or with a statement left out, a program is one.
func TestParts(t *testing.T) {
	n := 0
	for _, p := range programs(3, 1500) {
		for i := range p.Threads {
			q := p
			q.Threads = slices.Concat(p.Threads[:i], p.Threads[i+1:])
			right(t, q)
			shorter(&p.Threads[i].Body, func() {
				right(t, p)
				n++
			})
		}
	}
	if n < 1500 {
		t.Error("only", n, "statements")
	}
}

// touched is what texts of statements say of a shared variable, read anew.
func touched(l []api.Stmt, name string) (reads, writes bool) {
	for _, s := range l {
		reads = reads || s.Other == name || said(s.E, name)
		writes = writes || s.Other == name || s.Kind != api.StmtLock && s.Name == name
		for _, b := range [][]api.Stmt{s.Body, s.Else} {
			r, w := touched(b, name)
			reads, writes = reads || r, writes || w
		}
	}
	return reads, writes
}

func said(l []api.Expr, name string) bool {
	return slices.ContainsFunc(l, func(e api.Expr) bool { return e.Name == name || said(e.Kids, name) })
}

// 5.3, 5.8: a thread touches what its text says, and nothing else.
func TestTouched(t *testing.T) {
	for _, p := range programs(4, 1500) {
		for i, th := range p.Threads {
			var reads, writes []int
			for j, d := range p.Shared {
				r, w := touched(th.Body, d.Name)
				if r {
					reads = append(reads, j)
				}
				if w {
					writes = append(writes, j)
				}
			}
			if r, w := check.Touches(p, i); !slices.Equal(r, reads) || !slices.Equal(w, writes) {
				t.Fatal(p, i, r, w, reads, writes)
			}
		}
	}
}

// eachText hands on all texts of a value, and all its lists.
func eachText(v reflect.Value, do func(v reflect.Value)) {
	switch v.Kind() {
	case reflect.Struct:
		for i := range v.NumField() {
			eachText(v.Field(i), do)
		}
	case reflect.Slice:
		do(v)
		for i := range v.Len() {
			eachText(v.Index(i), do)
		}
	case reflect.String:
		do(v)
	}
}

// memory are the addresses of a value's texts and lists that have something in them.
func memory(p api.Program) map[uintptr]bool {
	l := map[uintptr]bool{}
	eachText(reflect.ValueOf(p), func(v reflect.Value) {
		if v.Len() == 0 {
			return
		}
		if v.Kind() == reflect.String {
			l[uintptr(unsafe.Pointer(unsafe.StringData(v.String())))] = true
		} else {
			l[v.Pointer()] = true
		}
	})
	return l
}

// 5.5: answers are new memory; what is handed in stays.
func TestNewMemory(t *testing.T) {
	p := program(t, busy)
	to := string([]byte("fresh"))
	ahead := memory(p)
	ahead[uintptr(unsafe.Pointer(unsafe.StringData(to)))] = true
	q, why := check.Rename(p, "n", to)
	own := memory(q)
	for at := range own {
		if ahead[at] {
			t.Error("Rename's answer shares memory with what was handed in")
		}
	}
	n := 0
	eachText(reflect.ValueOf(q), func(v reflect.Value) {
		if v.Len() > 0 {
			n++
		}
	})
	if why != api.OK || n != len(own) || n < 40 {
		t.Error("two parts of an answer share memory:", n, len(own), why)
	}
	r, w := check.Touches(p, 0)
	clear(r[:cap(r)])
	clear(w[:cap(w)])
	check.Check(p)
	if s, v := check.Touches(p, 0); fmt.Sprint(s, v) != "[0 1] [0 1]" || fmt.Sprint(r, w) != "[0 0] [0 0]" {
		t.Error("two answers share memory:", s, v)
	}
	if !reflect.DeepEqual(p, program(t, busy)) {
		t.Error("what was handed in is another")
	}
}

// P1: trees made by hand, as deep and as wide as may be.
func TestByHand(t *testing.T) {
	const far = 1 << 16
	e := api.Expr{Kind: 200, Op: 99, Word: -1, Name: "n"}
	s := api.Stmt{Kind: 77, E: []api.Expr{e, e, e}}
	for n := range far - 2 {
		e = api.Expr{Kind: api.ExprUnary, Op: api.OpNot, Kids: []api.Expr{e}, At: n}
		s = api.Stmt{Kind: api.StmtIf, E: []api.Expr{num(1)}, Else: []api.Stmt{s}, At: n}
	}
	wrong(t, around(s), api.Fault{At: far - 3 - api.MaxDeep, Rule: 7})
	wrong(t, around(api.Stmt{Kind: api.StmtPrint, E: []api.Expr{e}}), api.Fault{At: far - 3 - api.MaxDeep, Rule: 7})
	wrong(t, api.Program{Shared: slices.Repeat([]api.Decl{{Name: "x"}}, far)}, api.Fault{Rule: 2})
	wrong(t, api.Program{Threads: make([]api.Thread, far)}, api.Fault{Rule: 1})
	wrong(t, api.Program{Threads: []api.Thread{{Name: "a", Locals: make([]api.Decl, far), Body: make([]api.Stmt, far)}}}, api.Fault{Rule: 1})
	right(t, around(slices.Repeat([]api.Stmt{skip()}, far)...))
	right(t, api.Program{})
	right(t, api.Program{Shared: []api.Decl{}, Locks: []api.Decl{}, Threads: []api.Thread{}})
}

// P3, P4: the same answers at each time, and from many at one time; no goroutine is left.
func TestAlways(t *testing.T) {
	ahead := runtime.NumGoroutine()
	p := program(t, busy)
	tell := func() string {
		why, f := check.Check(p)
		no, g := check.Check(around(api.Stmt{Kind: api.StmtAssign, Name: "q", E: []api.Expr{num(1)}, At: 4}))
		r, w := check.Touches(p, 0)
		q, _ := check.Rename(p, "r", "k")
		return fmt.Sprint(why, f, no, g, r, w, q)
	}
	done := make(chan string)
	for range 8 {
		go func() {
			all := ""
			for range 30 {
				all = tell()
			}
			done <- all
		}()
	}
	want := tell()
	for range 8 {
		if <-done != want {
			t.Error("two answers to one question")
		}
	}
	for range 1000 {
		if runtime.NumGoroutine() <= ahead {
			return
		}
		time.Sleep(time.Millisecond)
	}
	t.Error("goroutines are left")
}
