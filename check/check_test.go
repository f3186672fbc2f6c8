package check_test

import (
	"fmt"
	"math"
	"reflect"
	"slices"
	"strconv"
	"strings"
	"testing"

	"stile/api"
	"stile/check"
	"stile/parse"
)

func program(t *testing.T, s string) api.Program {
	t.Helper()
	p, why, f := parse.Parse(s)
	if why != api.OK {
		t.Fatalf("Parse(%.300q): error %d, %v", s, why, f)
	}
	return p
}

// shown is what a failing test tells of a tree: its beginning.
func shown(p api.Program) string {
	s := fmt.Sprint(p)
	return s[:min(len(s), 300)]
}

// right holds that a tree is a program.
func right(t *testing.T, p api.Program) {
	t.Helper()
	if why, f := check.Check(p); why != api.OK || f != (api.Fault{}) {
		t.Errorf("Check(%s): error %d, %v", shown(p), why, f)
	}
}

// wrong holds a tree's fault against the one that it should have, and that all calls refuse it.
func wrong(t *testing.T, p api.Program, want api.Fault) {
	t.Helper()
	if why, f := check.Check(p); why != api.ErrCheck || f != want {
		t.Errorf("Check(%s): error %d, %v, not %v", shown(p), why, f, want)
	}
	for _, i := range []int{-1, 0, 1, len(p.Threads) - 1, len(p.Threads)} {
		if r, w := check.Touches(p, i); len(r)+len(w) > 0 {
			t.Errorf("Touches(%s, %d): %v, %v", shown(p), i, r, w)
		}
	}
	for _, name := range []string{"fresh", "", "if"} {
		if q, why := check.Rename(p, "x", name); why != api.ErrCheck || !reflect.DeepEqual(q, api.Program{}) {
			t.Errorf("Rename(%s, x, %q): %s, error %d", shown(p), name, shown(q), why)
		}
	}
}

func num(w int64) api.Expr { return api.Expr{Kind: api.ExprNumber, Word: w} }

func name(s string) api.Expr { return api.Expr{Kind: api.ExprName, Name: s} }

func one(op api.Op, kid api.Expr) api.Expr {
	return api.Expr{Kind: api.ExprUnary, Op: op, Kids: []api.Expr{kid}}
}

func two(op api.Op, left, right api.Expr) api.Expr {
	return api.Expr{Kind: api.ExprBinary, Op: op, Kids: []api.Expr{left, right}}
}

func skip() api.Stmt { return api.Stmt{Kind: api.StmtSkip} }

// around is a program with x, y, the lock l, the local r, and this body.
func around(l ...api.Stmt) api.Program {
	return api.Program{
		Shared:  []api.Decl{{Name: "x"}, {Name: "y"}},
		Locks:   []api.Decl{{Name: "l"}},
		Threads: []api.Thread{{Name: "a", Locals: []api.Decl{{Name: "r"}}, Body: l}},
	}
}

// 5.1: texts of programs.
func TestRight(t *testing.T) {
	for _, s := range []string{
		"", "shared x;", "lock l;", "thread a { }", "thread a { local r, s; r = s; }",
		"shared x = -9223372036854775807, y = 9223372036854775807; lock l, m; thread a { local r; r = x + 2 * y; lock l { lock m { lock l { print !r; } } } } thread b { while (x < -y) { x = swap(x, y); } if (x) { } else { skip; } }",
		"thread a { local r; r = r; } thread b { local r; print r; }",
		"thread a { local a, b; a = b; } thread b { local a; a = 1; }",
		"shared x; thread a { local r; r = swap(x, r); x = swap(x, x); }",
	} {
		right(t, program(t, s))
	}
}

// 5.1: texts that break a rule: the chapter's examples, and each rule in each place.
func TestWrong(t *testing.T) {
	for s, want := range map[string]api.Fault{
		"shared x, x;":                                    {At: 10, Rule: 2},
		"lock x; shared x;":                               {At: 5, Rule: 2},
		"thread a { x = 1; }":                             {At: 11, Rule: 5},
		"lock l; thread a { l = 1; }":                     {At: 19, Rule: 6},
		"shared x; thread a { lock x { } }":               {At: 21, Rule: 6},
		"shared x; thread a { local r; r = swap(r, 1); }": {At: 30, Rule: 6},
		"shared x; thread a { local x; }":                 {At: 27, Rule: 2},
		"thread a { } thread a { }":                       {At: 20, Rule: 2},
		"shared a; thread a { }":                          {At: 17, Rule: 2},

		"lock l, m, l;":                                               {At: 11, Rule: 2},
		"shared x; shared y, x;":                                      {At: 20, Rule: 2},
		"lock a; thread a { }":                                        {At: 15, Rule: 2},
		"lock l; thread a { local l; }":                               {At: 25, Rule: 2},
		"thread a { local r, s, r; }":                                 {At: 23, Rule: 2},
		"thread a { local r; } thread b { local r; local s, r; }":     {At: 51, Rule: 2},
		"thread a { print x; }":                                       {At: 17, Rule: 5},
		"thread a { lock l { } }":                                     {At: 11, Rule: 5},
		"shared x; thread a { y = swap(x, 1); }":                      {At: 21, Rule: 5},
		"shared x; thread a { x = swap(y, 1); }":                      {At: 21, Rule: 5},
		"shared x; thread a { x = swap(x, y); }":                      {At: 33, Rule: 5},
		"shared x; thread a { x = -(1 + !y); }":                       {At: 32, Rule: 5},
		"thread a { local r; } thread b { r = 1; }":                   {At: 33, Rule: 5},
		"thread a { r = 1; } thread b { local r; }":                   {At: 11, Rule: 5},
		"thread a { if (1) { print x; } else { print y; } }":          {At: 26, Rule: 5},
		"thread a { if (1) { } else { print y; } }":                   {At: 35, Rule: 5},
		"thread a { while (z) { print y; } }":                         {At: 18, Rule: 5},
		"thread a { while (1) { print y; } }":                         {At: 29, Rule: 5},
		"lock l; thread a { lock l { print y; } }":                    {At: 34, Rule: 5},
		"lock l; thread a { print l; }":                               {At: 25, Rule: 6},
		"shared x; lock l; thread a { l = swap(x, 1); }":              {At: 29, Rule: 6},
		"shared x; lock l; thread a { x = swap(l, 1); }":              {At: 29, Rule: 6},
		"shared x; thread a { x = swap(a, 1); }":                      {At: 21, Rule: 6},
		"thread a { a = 1; }":                                         {At: 11, Rule: 6},
		"thread a { print b; } thread b { }":                          {At: 17, Rule: 6},
		"thread a { lock b { } } thread b { }":                        {At: 11, Rule: 6},
		"thread a { local r; lock r { } }":                            {At: 20, Rule: 6},
		"thread a { local b; lock b { } } thread b { }":               {At: 20, Rule: 6},
		"shared x; thread a { local b; x = swap(b, 1); } thread b {}": {At: 30, Rule: 6},
	} {
		wrong(t, program(t, s), want)
	}
}

// 5.1: of several faults the first one on the walk is told; of one thing, the least rule.
func TestFirst(t *testing.T) {
	for s, want := range map[string]api.Fault{
		// One thing: 5 ahead of 6, of a StmtSwap's two names.
		"thread a { local r; q = swap(r, 1); }":                  {At: 20, Rule: 5},
		"lock l; shared x; thread a { l = swap(q, 1); }":         {At: 29, Rule: 5},
		"thread a { local r; } thread b { a = swap(r, 1); }":     {At: 33, Rule: 5},
		"shared x; thread a { local r; r = swap(r, q); }":        {At: 30, Rule: 6},
		"thread a { p = q; }":                                    {At: 11, Rule: 5},
		"thread a { print p + q; }":                              {At: 17, Rule: 5},
		"thread a { local r; print -q; r = swap(r, 1); }":        {At: 27, Rule: 5},
		"thread a { while (1) { p = 1; } q = 1; }":               {At: 23, Rule: 5},
		"thread a { if (p) { q = 1; } else { a = 1; } }":         {At: 15, Rule: 5},
		"thread a { if (1) { q = 1; } else { a = 1; } }":         {At: 20, Rule: 5},
		"thread a { p = 1; } thread a { }":                       {At: 11, Rule: 5},
		"thread a { local r, r; p = 1; } thread a { }":           {At: 20, Rule: 2},
		"thread a { } thread a { local r, r; p = 1; }":           {At: 20, Rule: 2},
		"lock m, m; shared x, x; thread a { p = 1; }":            {At: 21, Rule: 2},
		"lock m, m; shared x; thread x { p = 1; }":               {At: 8, Rule: 2},
		"shared x; thread a { print x; lock x { } } thread x {}": {At: 30, Rule: 6},
		"shared x; thread a { print x; } thread x { }":           {At: 39, Rule: 2},
	} {
		wrong(t, program(t, s), want)
	}
}

// 5.1, rule 1: names that are none, of each sort.
func TestNoName(t *testing.T) {
	for _, s := range []string{"", "if", "swap", "9", "a b", "$", strings.Repeat("n", api.MaxName+1)} {
		p := around()
		p.Shared[1] = api.Decl{Name: s, At: 7}
		wrong(t, p, api.Fault{At: 7, Rule: 1})
		p = around()
		p.Locks[0] = api.Decl{Name: s, At: 8}
		wrong(t, p, api.Fault{At: 8, Rule: 1})
		p = around()
		p.Threads[0].Name, p.Threads[0].At = s, 9
		wrong(t, p, api.Fault{At: 9, Rule: 1})
		p = around()
		p.Threads[0].Locals[0] = api.Decl{Name: s, At: 10}
		wrong(t, p, api.Fault{At: 10, Rule: 1})
		// Twice, too many, and with a Word: 1 is told.
		p = around()
		p.Locks = slices.Repeat([]api.Decl{{Name: s, Word: 3, At: 11}}, api.MaxLocks+1)
		wrong(t, p, api.Fault{At: 11, Rule: 1})
		// It is declared, though the walk comes to it later.
		p = around(api.Stmt{Kind: api.StmtPrint, E: []api.Expr{{Kind: api.ExprName, Name: s, At: 12}}})
		wrong(t, p, api.Fault{At: 12, Rule: 5})
		p.Threads = append(p.Threads, api.Thread{Name: s, At: 13})
		wrong(t, p, api.Fault{At: 12, Rule: 6})
	}
	p := around()
	p.Threads[0].Locals[0].Name = strings.Repeat("n", api.MaxName)
	right(t, p)
}

// decls are so many names, with places from the given one on.
func decls(n int, with string, at int) []api.Decl {
	var l []api.Decl
	for i := range n {
		l = append(l, api.Decl{Name: with + strconv.Itoa(i), At: at + i})
	}
	return l
}

// 5.1, rule 3: as many as may be, and one more.
func TestMany(t *testing.T) {
	var threads []api.Thread
	for i := range api.MaxThreads + 2 {
		threads = append(threads, api.Thread{Name: "t" + strconv.Itoa(i), Locals: decls(api.MaxLocals, "r", 0), At: 700 + i})
	}
	p := api.Program{Shared: decls(api.MaxShared, "x", 100), Locks: decls(api.MaxLocks, "l", 300), Threads: threads[:api.MaxThreads]}
	right(t, p)
	p.Threads = threads
	wrong(t, p, api.Fault{At: 700 + api.MaxThreads, Rule: 3})
	p.Threads[api.MaxThreads].Name = "x0"
	wrong(t, p, api.Fault{At: 700 + api.MaxThreads, Rule: 2})
	p.Threads[2].Locals = decls(api.MaxLocals+2, "s", 500)
	wrong(t, p, api.Fault{At: 500 + api.MaxLocals, Rule: 3})
	p.Threads[2].Locals[api.MaxLocals].Word = 1
	wrong(t, p, api.Fault{At: 500 + api.MaxLocals, Rule: 3})
	p.Threads[2].Locals[api.MaxLocals].Name = "l0"
	wrong(t, p, api.Fault{At: 500 + api.MaxLocals, Rule: 2})
	p.Locks = decls(api.MaxLocks+2, "l", 300)
	wrong(t, p, api.Fault{At: 300 + api.MaxLocks, Rule: 3})
	p.Shared = decls(api.MaxShared+2, "x", 100)
	wrong(t, p, api.Fault{At: 100 + api.MaxShared, Rule: 3})
	p.Shared[api.MaxShared].Word = math.MinInt64
	wrong(t, p, api.Fault{At: 100 + api.MaxShared, Rule: 3})
	p.Shared[api.MaxShared].Name = "x1"
	wrong(t, p, api.Fault{At: 100 + api.MaxShared, Rule: 2})
	p.Shared[api.MaxShared].Name = ""
	wrong(t, p, api.Fault{At: 100 + api.MaxShared, Rule: 1})
}

// 5.1, rule 4: the words of what is declared.
func TestWords(t *testing.T) {
	for _, w := range []int64{math.MinInt64, math.MinInt64 + 1, -1, 0, 1, math.MaxInt64} {
		p := around()
		p.Shared[0].Word, p.Shared[0].At = w, 5
		if w == math.MinInt64 {
			wrong(t, p, api.Fault{At: 5, Rule: 4})
		} else {
			right(t, p)
		}
		p = around()
		p.Locks[0].Word, p.Locks[0].At = w, 6
		q := around()
		q.Threads[0].Locals[0].Word, q.Threads[0].Locals[0].At = w, 7
		if w == 0 {
			right(t, p)
			right(t, q)
		} else {
			wrong(t, p, api.Fault{At: 6, Rule: 4})
			wrong(t, q, api.Fault{At: 7, Rule: 4})
		}
	}
}

// stmts has a statement of each kind that is right.
func stmts() []api.Stmt {
	return []api.Stmt{
		{Kind: api.StmtAssign, Name: "x", E: []api.Expr{num(1)}},
		{Kind: api.StmtSwap, Name: "x", Other: "y", E: []api.Expr{num(1)}},
		{Kind: api.StmtIf, E: []api.Expr{num(1)}, Body: []api.Stmt{skip()}, Else: []api.Stmt{skip()}},
		{Kind: api.StmtWhile, E: []api.Expr{num(1)}, Body: []api.Stmt{skip()}},
		{Kind: api.StmtLock, Name: "l", Body: []api.Stmt{skip()}},
		{Kind: api.StmtPrint, E: []api.Expr{num(1)}},
		skip(),
	}
}

// 5.1, rule 4: of each kind of statements each field that it does not use, and each number of E; the lists alike, nil or empty.
func TestShapes(t *testing.T) {
	for _, s := range stmts() {
		s.At = 40
		right(t, around(s))
		empty := s
		empty.Body, empty.Else = []api.Stmt{}, []api.Stmt{}
		right(t, around(empty))
		empty.Body, empty.Else = nil, nil
		right(t, around(empty))
		fault := api.Fault{At: 40, Rule: 4}
		bad := s
		if s.Name == "" {
			bad.Name = "x"
			wrong(t, around(bad), fault)
			bad.Name = "none"
			wrong(t, around(bad), fault)
		}
		if bad = s; s.Other == "" {
			bad.Other = "x"
			wrong(t, around(bad), fault)
		}
		if bad = s; len(s.Body) == 0 {
			bad.Body = []api.Stmt{skip()}
			wrong(t, around(bad), fault)
		}
		if bad = s; len(s.Else) == 0 {
			bad.Else = []api.Stmt{skip()}
			wrong(t, around(bad), fault)
		}
		for n := range 4 {
			bad = s
			bad.E = slices.Repeat([]api.Expr{num(1)}, n)
			if n != len(s.E) {
				wrong(t, around(bad), fault)
			}
		}
	}
	for n := range 256 {
		kind := api.StmtKind(n)
		if kind > api.StmtNone && kind < api.StmtCount {
			continue
		}
		wrong(t, around(skip(), api.Stmt{Kind: kind, At: 3}), api.Fault{At: 3, Rule: 4})
		wrong(t, around(api.Stmt{Kind: kind, Name: "q", Other: "q", E: []api.Expr{{}}, Body: []api.Stmt{{}}, At: 3}), api.Fault{At: 3, Rule: 4})
	}
	// 4 is told ahead of 5 and 6 of the same statement.
	wrong(t, around(api.Stmt{Kind: api.StmtAssign, Name: "q", At: 3}), api.Fault{At: 3, Rule: 4})
	wrong(t, around(api.Stmt{Kind: api.StmtLock, Name: "x", Other: "r", At: 3}), api.Fault{At: 3, Rule: 4})
	wrong(t, around(api.Stmt{Kind: api.StmtLock, At: 3}), api.Fault{At: 3, Rule: 5})
}

// 5.1, rule 4: of each kind of expressions likewise.
func TestExprShapes(t *testing.T) {
	kinds := []api.Expr{num(0), num(math.MaxInt64), name("x"), one(api.OpMinus, num(1)), one(api.OpNot, name("r")), two(api.OpAdd, num(1), name("y"))}
	in := func(e api.Expr) api.Program {
		return around(api.Stmt{Kind: api.StmtIf, E: []api.Expr{two(api.OpLess, num(1), e)}})
	}
	for _, e := range kinds {
		e.At = 50
		right(t, in(e))
		fault := api.Fault{At: 50, Rule: 4}
		if bad := e; e.Kind != api.ExprNumber {
			bad.Word = 1
			wrong(t, in(bad), fault)
			bad.Word = -1
			wrong(t, in(bad), fault)
		}
		if bad := e; e.Kind != api.ExprName {
			bad.Name = "x"
			wrong(t, in(bad), fault)
		}
		for n := range 256 {
			op := api.Op(n)
			bad := e
			bad.Op = op
			is := op == api.OpNone
			switch e.Kind {
			case api.ExprUnary:
				is = op == api.OpMinus || op == api.OpNot
			case api.ExprBinary:
				is = slices.Contains([]api.Op{api.OpAdd, api.OpSub, api.OpMul, api.OpDiv, api.OpRem, api.OpAnd, api.OpOr, api.OpXor, api.OpShl, api.OpShr, api.OpIs, api.OpIsNot, api.OpLess, api.OpMost, api.OpAbove, api.OpLeast}, op)
			}
			if is {
				right(t, in(bad))
			} else {
				wrong(t, in(bad), fault)
			}
		}
		for n := range 4 {
			bad := e
			bad.Kids = slices.Repeat([]api.Expr{num(1)}, n)
			if n != len(e.Kids) {
				wrong(t, in(bad), fault)
			}
		}
	}
	for n := range 256 {
		if kind := api.ExprKind(n); kind == api.ExprNone || kind >= api.ExprCount {
			wrong(t, in(api.Expr{Kind: kind, At: 50}), api.Fault{At: 50, Rule: 4})
		}
	}
	for _, w := range []int64{-1, math.MinInt64} {
		bad := num(w)
		bad.At = 50
		wrong(t, in(bad), api.Fault{At: 50, Rule: 4})
	}
	// The walk comes to an expression ahead of its Kids, and to the first one first.
	bad := two(api.OpNot, api.Expr{At: 51}, api.Expr{At: 52})
	bad.At = 53
	wrong(t, in(bad), api.Fault{At: 53, Rule: 4})
	bad.Op = api.OpAdd
	wrong(t, in(bad), api.Fault{At: 51, Rule: 4})
}

// 5.1, rule 7: statements as deep as may be, and one deeper, in each kind of block.
func TestDeep(t *testing.T) {
	for k, wrap := range []func(s api.Stmt) api.Stmt{
		func(s api.Stmt) api.Stmt {
			return api.Stmt{Kind: api.StmtIf, E: []api.Expr{num(1)}, Body: []api.Stmt{s}}
		},
		func(s api.Stmt) api.Stmt {
			return api.Stmt{Kind: api.StmtIf, E: []api.Expr{num(1)}, Else: []api.Stmt{s}}
		},
		func(s api.Stmt) api.Stmt {
			return api.Stmt{Kind: api.StmtWhile, E: []api.Expr{num(1)}, Body: []api.Stmt{s}}
		},
		func(s api.Stmt) api.Stmt { return api.Stmt{Kind: api.StmtLock, Name: "l", Body: []api.Stmt{s}} },
	} {
		at := func(s api.Stmt, deep int) api.Program {
			for range deep - 1 {
				s = wrap(s)
			}
			return around(s)
		}
		s := skip()
		s.At = 60
		right(t, at(s, api.MaxDeep))
		wrong(t, at(s, api.MaxDeep+1), api.Fault{At: 60, Rule: 7})
		wrong(t, at(s, api.MaxDeep+1000), api.Fault{At: 0, Rule: 7})
		// An empty block as deep has nothing in it that lies too deep.
		right(t, at(api.Stmt{Kind: api.StmtWhile, E: []api.Expr{num(1)}}, api.MaxDeep))
		// Its own expression lies at 1 again.
		right(t, at(api.Stmt{Kind: api.StmtPrint, E: []api.Expr{deepExpr(api.MaxDeep, num(1))}}, api.MaxDeep))
		// 5 is told ahead of 7.
		wrong(t, at(api.Stmt{Kind: api.StmtAssign, Name: "q", E: []api.Expr{num(1)}, At: 61}, api.MaxDeep+1), api.Fault{At: 61, Rule: 5})
		if t.Failed() {
			t.Fatal("in the kind of blocks", k)
		}
	}
}

// deepExpr lies so deep, in operators of one and of two by turns.
func deepExpr(deep int, e api.Expr) api.Expr {
	for i := range deep - 1 {
		switch i % 3 {
		case 0:
			e = one(api.OpNot, e)
		case 1:
			e = two(api.OpAdd, e, num(1))
		case 2:
			e = two(api.OpShl, name("x"), e)
		}
	}
	return e
}

// 5.1, rule 7: expressions likewise, also of texts: parse counts parentheses, check the parts.
func TestDeepExpr(t *testing.T) {
	inner := num(1)
	inner.At = 70
	in := func(e api.Expr) api.Program { return around(api.Stmt{Kind: api.StmtPrint, E: []api.Expr{e}}) }
	right(t, in(deepExpr(api.MaxDeep, inner)))
	wrong(t, in(deepExpr(api.MaxDeep+1, inner)), api.Fault{At: 70, Rule: 7})
	wrong(t, in(deepExpr(1<<16-1, inner)), api.Fault{At: 0, Rule: 7})
	inner.Word = -1
	wrong(t, in(deepExpr(api.MaxDeep+1, inner)), api.Fault{At: 70, Rule: 4})

	sum := func(n int) string { return "thread a { print 1" + strings.Repeat("+1", n-1) + "; }" }
	right(t, program(t, sum(api.MaxDeep)))
	wrong(t, program(t, sum(api.MaxDeep+1)), api.Fault{At: 17, Rule: 7})
	wrong(t, program(t, sum(api.MaxDeep+2)), api.Fault{At: 18, Rule: 7})
	right(t, program(t, "thread a { print "+strings.Repeat("(", api.MaxDeep)+"1"+strings.Repeat(")", api.MaxDeep)+"; }"))
	right(t, program(t, "thread a { print "+strings.Repeat("-", api.MaxDeep-1)+"1; }"))
	wrong(t, program(t, "thread a { print "+strings.Repeat("-", api.MaxDeep)+"1; }"), api.Fault{At: 17 + api.MaxDeep, Rule: 7})
}

// 5.2: the first one of a name; of any tree.
func TestNumbers(t *testing.T) {
	p := program(t, "shared x, y, x; lock l, y, l; thread a { local x, r, r; } thread b { local s; }")
	if check.Shared(p, "x") != 0 || check.Shared(p, "y") != 1 || check.Shared(p, "l") != -1 || check.Shared(p, "r") != -1 || check.Shared(p, "a") != -1 || check.Shared(p, "") != -1 {
		t.Error("Shared")
	}
	if check.Lock(p, "l") != 0 || check.Lock(p, "y") != 1 || check.Lock(p, "x") != -1 || check.Lock(p, "") != -1 {
		t.Error("Lock")
	}
	for i, want := range map[int][3]int{math.MinInt: {-1, -1, -1}, -1: {-1, -1, -1}, 0: {0, 1, -1}, 1: {-1, -1, 0}, 2: {-1, -1, -1}, math.MaxInt: {-1, -1, -1}} {
		if got := [3]int{check.Local(p, i, "x"), check.Local(p, i, "r"), check.Local(p, i, "s")}; got != want {
			t.Error("Local of", i, got)
		}
	}
	if check.Shared(api.Program{}, "x") != -1 || check.Lock(api.Program{}, "x") != -1 || check.Local(api.Program{}, 0, "x") != -1 {
		t.Error("of nothing")
	}
	if odd := (api.Program{Shared: []api.Decl{{Name: "if"}, {Name: ""}}}); check.Shared(odd, "") != 1 || check.Shared(odd, "if") != 0 {
		t.Error("of names that are none")
	}
}

// 5.3: what a thread reads, and what it writes.
func TestTouches(t *testing.T) {
	for s, want := range map[string][2][]int{
		"x = y; y = swap(x, 1);": {{0, 1}, {0, 1}},
		"":                       {},
		"skip; r = 1; print r;":  {},
		"x = 1;":                 {nil, {0}},
		"print z;":               {{2}, nil},
		"z = x; z = x + x;":      {{0}, {2}},
		"r = swap(y, 1);":        {{1}, {1}},
		"x = swap(y, z);":        {{1, 2}, {0, 1}},
		"x = swap(x, 1);":        {{0}, {0}},
		"if (z) { y = 1; } else { lock l { x = 1; } }": {{2}, {0, 1}},
		"while (!(1 + -z)) { skip; }":                  {{2}, nil},
		"lock l { r = q; }":                            {},
		"print z; print y; print x; z = 1; x = 1;":     {{0, 1, 2}, {0, 2}},
	} {
		p := program(t, "shared x, y, z; lock l; thread b { x = y; } thread a { local r, q; "+s+" } thread c { }")
		right(t, p)
		r, w := check.Touches(p, 1)
		if !slices.Equal(r, want[0]) || !slices.Equal(w, want[1]) {
			t.Errorf("%q: %v, %v", s, r, w)
		}
		for _, i := range []int{math.MinInt, -1, 2, 3, math.MaxInt} {
			if r, w := check.Touches(p, i); len(r)+len(w) > 0 {
				t.Errorf("thread %d: %v, %v", i, r, w)
			}
		}
	}
	p := api.Program{Shared: decls(api.MaxShared, "x", 0), Threads: []api.Thread{{Name: "a"}}}
	want := []int{}
	for i := api.MaxShared - 1; i >= 0; i-- {
		p.Threads[0].Body = append(p.Threads[0].Body, api.Stmt{Kind: api.StmtSwap, Name: p.Shared[i].Name, Other: p.Shared[i].Name, E: []api.Expr{num(1)}})
		want = append(want, api.MaxShared-1-i)
	}
	if r, w := check.Touches(p, 0); !slices.Equal(r, want) || !slices.Equal(w, want) {
		t.Error("of all:", r, w)
	}
}

const busy = "shared n, y = 3; lock l; thread a { local b, r; b = n; r = swap(n, -n + (n * b)); n = swap(y, r); if (n) { lock l { print n; } } else { while (!n) { skip; } } } thread b { local r; print y; r = n; }"

// 5.4: Rename sets each name that is old, wherever it stands.
func TestRename(t *testing.T) {
	p := program(t, busy)
	for _, old := range strings.Fields("n y l a b r") {
		for _, to := range []string{"k", strings.Repeat("m", api.MaxName)} {
			q, why := check.Rename(p, old, to)
			var texts []string
			for _, x := range strings.Fields(strings.NewReplacer("(", " ( ", ")", " ) ", ";", " ; ", ",", " , ", "-", " - ", "!", " ! ").Replace(busy)) {
				if x == old {
					x = to
				}
				texts = append(texts, x)
			}
			if want := program(t, strings.Join(texts, " ")); why != api.OK || !parse.Same(q, want) {
				t.Errorf("%s to %s: %v\nnot %v, error %d", old, to, q, want, why)
			}
			right(t, q)
			if len(to) == 1 {
				back, why := check.Rename(q, to, old)
				if why != api.OK || !reflect.DeepEqual(back, p) {
					t.Errorf("%s to %s and back: %v, error %d", old, to, back, why)
				}
			}
			for i := range p.Threads {
				r, w := check.Touches(p, i)
				if s, v := check.Touches(q, i); !slices.Equal(r, s) || !slices.Equal(w, v) {
					t.Errorf("%s to %s: touches %v, %v", old, to, s, v)
				}
			}
		}
	}
}

// 5.4: what Rename refuses.
func TestRenameRefused(t *testing.T) {
	p := program(t, busy)
	for _, x := range [][2]string{
		{"n", "n"}, {"n", "y"}, {"n", "l"}, {"n", "a"}, {"n", "b"}, {"r", "b"}, {"a", "r"}, {"l", "r"},
		{"q", "z"}, {"", "z"}, {"if", "z"}, {"q", "n"},
		{"n", ""}, {"n", "if"}, {"n", "9"}, {"n", "k "}, {"n", strings.Repeat("m", api.MaxName+1)},
	} {
		if q, why := check.Rename(p, x[0], x[1]); why != api.ErrName || !reflect.DeepEqual(q, api.Program{}) {
			t.Errorf("%q to %q: error %d", x[0], x[1], why)
		}
	}
	p = program(t, "shared x; thread a { x = x + 1; }")
	if q, why := check.Rename(p, "x", "y"); why != api.OK || !reflect.DeepEqual(q, program(t, "shared y; thread a { y = y + 1; }")) {
		t.Error(q, why)
	}
	if _, why := check.Rename(api.Program{}, "x", "y"); why != api.ErrName {
		t.Error("of nothing:", why)
	}
}
