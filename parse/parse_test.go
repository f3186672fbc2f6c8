package parse_test

import (
	"reflect"
	"runtime"
	"strings"
	"testing"
	"time"

	"stile/api"
	"stile/lexer"
	"stile/parse"
)

func program(t *testing.T, s string) api.Program {
	t.Helper()
	p, why, f := parse.Parse(s)
	if why != api.OK || f != (api.Fault{}) {
		t.Fatalf("Parse(%.200q): error %d, %v", s, why, f)
	}
	return p
}

func expr(t *testing.T, s string) api.Expr {
	t.Helper()
	e, why, f := parse.Expr(s)
	if why != api.OK || f != (api.Fault{}) {
		t.Fatalf("Expr(%.200q): error %d, %v", s, why, f)
	}
	return e
}

func num(w int64, at int) api.Expr { return api.Expr{Kind: api.ExprNumber, Word: w, At: at} }

func name(s string, at int) api.Expr { return api.Expr{Kind: api.ExprName, Name: s, At: at} }

func one(op api.Op, at int, kid api.Expr) api.Expr {
	return api.Expr{Kind: api.ExprUnary, Op: op, At: at, Kids: []api.Expr{kid}}
}

func two(op api.Op, at int, left, right api.Expr) api.Expr {
	return api.Expr{Kind: api.ExprBinary, Op: op, At: at, Kids: []api.Expr{left, right}}
}

func list[T any](l ...T) []T { return l }

func nest(n int, open, inner, shut string) string {
	return strings.Repeat(open, n) + inner + strings.Repeat(shut, n)
}

// 3.1: the chapter's first example, field by field.
func TestProgram(t *testing.T) {
	got := program(t, "shared x = -3, y; lock l; thread a { local r; r = x + 2 * y; lock l { print r; } }")
	want := api.Program{
		Shared: list(api.Decl{Name: "x", Word: -3, At: 7}, api.Decl{Name: "y", At: 15}),
		Locks:  list(api.Decl{Name: "l", At: 23}),
		Threads: list(api.Thread{
			Name: "a", At: 33, Locals: list(api.Decl{Name: "r", At: 43}),
			Body: list(
				api.Stmt{Kind: api.StmtAssign, Name: "r", At: 46, E: list(two(api.OpAdd, 52, name("x", 50), two(api.OpMul, 56, num(2, 54), name("y", 58))))},
				api.Stmt{Kind: api.StmtLock, Name: "l", At: 61, Body: list(api.Stmt{Kind: api.StmtPrint, At: 70, E: list(name("r", 76))})},
			),
		}),
	}
	if !reflect.DeepEqual(got, want) {
		t.Errorf("%+v\nnot %+v", got, want)
	}
	if got := program(t, ""); !reflect.DeepEqual(got, api.Program{}) {
		t.Error("a program of nothing:", got)
	}
}

// 3.1: each statement, with its fields and its place.
func TestStatements(t *testing.T) {
	skip := func(at int) []api.Stmt { return list(api.Stmt{Kind: api.StmtSkip, At: at}) }
	for s, want := range map[string]api.Stmt{
		"x = 1;":                         {Kind: api.StmtAssign, Name: "x", E: list(num(1, 4))},
		"x = (1);":                       {Kind: api.StmtAssign, Name: "x", E: list(num(1, 5))},
		"x = swap(y, 1);":                {Kind: api.StmtSwap, Name: "x", Other: "y", E: list(num(1, 12))},
		"x = swap(y, (a));":              {Kind: api.StmtSwap, Name: "x", Other: "y", E: list(name("a", 13))},
		"print -x;":                      {Kind: api.StmtPrint, E: list(one(api.OpMinus, 6, name("x", 7)))},
		"skip;":                          {Kind: api.StmtSkip},
		"if (x) { }":                     {Kind: api.StmtIf, E: list(name("x", 4))},
		"if (x) { skip; }":               {Kind: api.StmtIf, E: list(name("x", 4)), Body: skip(9)},
		"if (x) { } else { }":            {Kind: api.StmtIf, E: list(name("x", 4))},
		"if (x) { } else { skip; }":      {Kind: api.StmtIf, E: list(name("x", 4)), Else: skip(18)},
		"if ((x)) {skip;}else{skip;}":    {Kind: api.StmtIf, E: list(name("x", 5)), Body: skip(10), Else: skip(21)},
		"while (!x) { skip; }":           {Kind: api.StmtWhile, E: list(one(api.OpNot, 7, name("x", 8))), Body: skip(13)},
		"while (x) { }":                  {Kind: api.StmtWhile, E: list(name("x", 7))},
		"lock l { skip; }":               {Kind: api.StmtLock, Name: "l", Body: skip(9)},
		"lock l { }":                     {Kind: api.StmtLock, Name: "l"},
		"lock l{while(1){if(0){skip;}}}": {Kind: api.StmtLock, Name: "l", Body: list(api.Stmt{Kind: api.StmtWhile, At: 7, E: list(num(1, 13)), Body: list(api.Stmt{Kind: api.StmtIf, At: 16, E: list(num(0, 19)), Body: skip(22)})})},
	} {
		p := program(t, "thread a{"+strings.Repeat(" ", 91)+s+"}")
		if len(p.Threads) != 1 || len(p.Threads[0].Body) != 1 {
			t.Errorf("%q: %+v", s, p)
			continue
		}
		if got := p.Threads[0].Body[0]; !reflect.DeepEqual(got, moved(want, 100)) {
			t.Errorf("%q: %+v, not %+v", s, got, moved(want, 100))
		}
	}
}

// moved is a statement so many bytes further on.
func moved(s api.Stmt, by int) api.Stmt {
	var exprs func(l []api.Expr) []api.Expr
	exprs = func(l []api.Expr) []api.Expr {
		var out []api.Expr
		for _, e := range l {
			e.At += by
			e.Kids = exprs(e.Kids)
			out = append(out, e)
		}
		return out
	}
	stmts := func(l []api.Stmt) []api.Stmt {
		var out []api.Stmt
		for _, x := range l {
			out = append(out, moved(x, by))
		}
		return out
	}
	s.At += by
	s.E, s.Body, s.Else = exprs(s.E), stmts(s.Body), stmts(s.Else)
	return s
}

// 3.1: what is declared, in several lines, and the words that a shared variable may have.
func TestDecls(t *testing.T) {
	p := program(t, "lock m, k; shared a=9223372036854775807,b=-9223372036854775807; lock j;shared c = - 0,d=0;thread t { local r, s; local q; }thread u{}")
	if want := list(api.Decl{Name: "a", Word: 1<<63 - 1, At: 18}, api.Decl{Name: "b", Word: -1<<63 + 1, At: 40}, api.Decl{Name: "c", At: 78}, api.Decl{Name: "d", At: 86}); !reflect.DeepEqual(p.Shared, want) {
		t.Error(p.Shared)
	}
	if want := list(api.Decl{Name: "m", At: 5}, api.Decl{Name: "k", At: 8}, api.Decl{Name: "j", At: 69}); !reflect.DeepEqual(p.Locks, want) {
		t.Error(p.Locks)
	}
	if len(p.Threads) != 2 || p.Threads[0].Name != "t" || p.Threads[1].Name != "u" || len(p.Threads[0].Locals) != 3 || p.Threads[0].Locals[2].Name != "q" || p.Threads[1].Locals != nil || p.Threads[1].Body != nil {
		t.Error(p.Threads)
	}
}

// 3.1: the chapter's examples of expressions, and others.
func TestExpr(t *testing.T) {
	for s, want := range map[string]api.Expr{
		"- - 1":         one(api.OpMinus, 0, one(api.OpMinus, 2, num(1, 4))),
		"1 - -1":        two(api.OpSub, 2, num(1, 0), one(api.OpMinus, 4, num(1, 5))),
		"a < b == c":    two(api.OpIs, 6, two(api.OpLess, 2, name("a", 0), name("b", 4)), name("c", 9)),
		"a - b - c":     two(api.OpSub, 6, two(api.OpSub, 2, name("a", 0), name("b", 4)), name("c", 8)),
		"a - (b - c)":   two(api.OpSub, 2, name("a", 0), two(api.OpSub, 7, name("b", 5), name("c", 9))),
		"-a * b":        two(api.OpMul, 3, one(api.OpMinus, 0, name("a", 1)), name("b", 5)),
		"-(a * b)":      one(api.OpMinus, 0, two(api.OpMul, 4, name("a", 2), name("b", 6))),
		"!-!x":          one(api.OpNot, 0, one(api.OpMinus, 1, one(api.OpNot, 2, name("x", 3)))),
		"a|b&c^d":       two(api.OpOr, 1, name("a", 0), two(api.OpXor, 5, two(api.OpAnd, 3, name("b", 2), name("c", 4)), name("d", 6))),
		"1<<2+3%4>=5":   two(api.OpLeast, 8, two(api.OpShl, 1, num(1, 0), two(api.OpAdd, 4, num(2, 3), two(api.OpRem, 6, num(3, 5), num(4, 7)))), num(5, 10)),
		" ( ( 7 ) ) ":   num(7, 5),
		"a // b\n+ c":   two(api.OpAdd, 7, name("a", 0), name("c", 9)),
		"a / b / c * d": two(api.OpMul, 10, two(api.OpDiv, 6, two(api.OpDiv, 2, name("a", 0), name("b", 4)), name("c", 8)), name("d", 12)),
	} {
		if got := expr(t, s); !reflect.DeepEqual(got, want) {
			t.Errorf("Expr(%q) = %+v, not %+v", s, got, want)
		}
	}
}

// 3.1, P2: texts with faults, with their places and rules; beside them nothing.
func TestFaults(t *testing.T) {
	for s, want := range map[string]api.Fault{
		"thread a { x = 1 }": {At: 17, Rule: 2}, "thread": {At: 6, Rule: 2}, "thread // r": {At: 11, Rule: 2}, "thread \n": {At: 8, Rule: 2},
		"thread a { x = $; }": {At: 15, Rule: 1}, "thread a { }}": {At: 12, Rule: 2}, "lock x": {At: 6, Rule: 2},
		"} 01": {At: 2, Rule: 1}, "thread 1a": {At: 8, Rule: 1}, "x y z $": {At: 6, Rule: 1}, "shared x = 9223372036854775808;": {At: 11, Rule: 1}, "shared x = -9223372036854775808;": {At: 12, Rule: 1},
		"x": {At: 0, Rule: 2}, ";": {At: 0, Rule: 2}, "skip;": {At: 0, Rule: 2}, "local r;": {At: 0, Rule: 2},
		"shared;": {At: 6, Rule: 2}, "shared x,;": {At: 9, Rule: 2}, "shared x y;": {At: 9, Rule: 2}, "shared x = y;": {At: 11, Rule: 2}, "shared x = --1;": {At: 12, Rule: 2}, "shared x = !1;": {At: 11, Rule: 2}, "shared x = 1 + 1;": {At: 13, Rule: 2}, "shared x = (1);": {At: 11, Rule: 2}, "shared if;": {At: 7, Rule: 2}, "shared x = -;": {At: 12, Rule: 2},
		"lock l = 1;": {At: 7, Rule: 2}, "lock l { }": {At: 7, Rule: 2},
		"thread a { } shared x;": {At: 13, Rule: 2}, "thread a { } lock l;": {At: 13, Rule: 2}, "thread { }": {At: 7, Rule: 2}, "thread a ;": {At: 9, Rule: 2}, "thread a b": {At: 9, Rule: 2},
		"thread a { local r = 1; }": {At: 19, Rule: 2}, "thread a { skip; local r; }": {At: 17, Rule: 2}, "thread a { if (1) { local r; } }": {At: 20, Rule: 2}, "thread a { local ; }": {At: 17, Rule: 2}, "thread a {": {At: 10, Rule: 2}, "thread a { shared x; }": {At: 11, Rule: 2}, "thread a { thread b { } }": {At: 11, Rule: 2},
		"thread a { x; }": {At: 12, Rule: 2}, "thread a { x == 1; }": {At: 13, Rule: 2}, "thread a { x = ; }": {At: 15, Rule: 2}, "thread a { x = swap; }": {At: 19, Rule: 2}, "thread a { x = swap(1, 1); }": {At: 20, Rule: 2}, "thread a { x = swap(y); }": {At: 21, Rule: 2}, "thread a { x = swap(y, 1); + 1; }": {At: 27, Rule: 2}, "thread a { x = swap(y, 1) + 1; }": {At: 26, Rule: 2}, "thread a { x = 1 + swap(y, 1); }": {At: 19, Rule: 2}, "thread a { x = (swap(y, 1)); }": {At: 16, Rule: 2}, "thread a { swap(y, 1); }": {At: 11, Rule: 2}, "thread a { x = swap((y), 1); }": {At: 20, Rule: 2},
		"thread a { if x { } }": {At: 14, Rule: 2}, "thread a { if () { } }": {At: 15, Rule: 2}, "thread a { if (x) skip; }": {At: 18, Rule: 2}, "thread a { else { } }": {At: 11, Rule: 2}, "thread a { if (x) { } else skip; }": {At: 27, Rule: 2}, "thread a { if (x) { } else if (y) { } }": {At: 27, Rule: 2}, "thread a { while (x) { } else { } }": {At: 25, Rule: 2}, "thread a { lock l ; }": {At: 18, Rule: 2}, "thread a { lock (l) { } }": {At: 16, Rule: 2}, "thread a { lock l { } else { } }": {At: 22, Rule: 2},
		"thread a { print; }": {At: 16, Rule: 2}, "thread a { print 1, 2; }": {At: 18, Rule: 2}, "thread a { skip }": {At: 16, Rule: 2}, "thread a { { } }": {At: 11, Rule: 2}, "thread a { ; }": {At: 11, Rule: 2}, "thread a { 1 = x; }": {At: 11, Rule: 2}, "thread a { if = 1; }": {At: 14, Rule: 2},
	} {
		if p, why, f := parse.Parse(s); why != api.ErrParse || f != want || !reflect.DeepEqual(p, api.Program{}) {
			t.Errorf("Parse(%q): %+v, error %d, %v, not %v", s, p, why, f, want)
		}
	}
	for s, want := range map[string]api.Fault{
		"1 2": {At: 2, Rule: 2}, "": {At: 0, Rule: 2}, " // r\n": {At: 6, Rule: 2}, "1 +": {At: 3, Rule: 2}, "1 + ": {At: 4, Rule: 2}, "+ 1": {At: 0, Rule: 2}, "1 + * 2": {At: 4, Rule: 2}, "(1": {At: 2, Rule: 2}, "()": {At: 1, Rule: 2}, "(1))": {At: 3, Rule: 2}, "1 ! 2": {At: 2, Rule: 2}, "1 = 2": {At: 2, Rule: 2}, "a b": {At: 2, Rule: 2}, "if": {At: 0, Rule: 2}, "swap(x, 1)": {At: 0, Rule: 2}, "-": {At: 1, Rule: 2}, "a(1)": {At: 1, Rule: 2}, "1;": {At: 1, Rule: 2}, "1, 2": {At: 1, Rule: 2}, "1 $": {At: 2, Rule: 1}, "1 2 01": {At: 4, Rule: 1}, "a && b": {At: 3, Rule: 2}, "9223372036854775808": {At: 0, Rule: 1}, strings.Repeat("n", 33): {At: 32, Rule: 1},
	} {
		if e, why, f := parse.Expr(s); why != api.ErrParse || f != want || !reflect.DeepEqual(e, api.Expr{}) {
			t.Errorf("Expr(%q): %+v, error %d, %v, not %v", s, e, why, f, want)
		}
	}
}

// 3.1: how deep parts of expressions may lie: the last depth that may be, and one more.
func TestDeepParts(t *testing.T) {
	most := api.MaxDeep
	for _, s := range []string{
		nest(most, "(", "1", ")"), nest(most, "-", "x", ""), nest(most, "!", "x", ""), nest(most/2, "-(", "1", ")"), "(" + nest(most/2-1, "!(", "1+(2)", ")") + ")",
		nest(most, "(", "1 + 2", ")"), nest(most, "1 + (", "2", ")"), "-1 + " + nest(most, "-", "x", ""), nest(most, "(", "1", ")") + "*" + nest(most, "-", "1", ""),
		strings.Repeat("1+", 30000) + "1", strings.Repeat("-1*", 10000) + "1", strings.Repeat("(1)|", 10000) + "1",
	} {
		expr(t, s)
		for _, frame := range [][2]string{{"x=", ";"}, {"x=swap(y,", ");"}, {"print ", ";"}, {"if(", "){}"}, {"while(", "){}"}, {"lock l{if(x){}else{print ", ";}}"}} {
			program(t, "thread a{"+frame[0]+s+frame[1]+"}")
		}
	}
	for s, at := range map[string]int{
		nest(most+1, "(", "1", ")"): most, nest(most+1, "(", "", ""): most, nest(most+1, "(", "", ")"): most, nest(most+1, "-", "x", ""): most, nest(most+1, "!", "x", ""): most, nest(most, "(", "-1", ")"): most, nest(most, "-", "(1)", ""): most, nest(most+9, "-", "", ""): most,
		nest(most/2, "-(", "!1", ")"): most, nest(most, "1+(", "2-(3)", ")"): 3*most + 2, nest(most, "(", "1", ")") + "+" + nest(most+1, "-", "1", ""): 3*most + 2,
	} {
		if e, why, f := parse.Expr(s); why != api.ErrParse || f != (api.Fault{At: at, Rule: 3}) || !reflect.DeepEqual(e, api.Expr{}) {
			t.Errorf("Expr(%q): error %d, %v, not %d", s, why, f, at)
		}
		for _, ahead := range []string{"thread a{x=", "thread a{if(", "thread a{x=swap(y,", "thread a { while (x) { } print "} {
			if _, why, f := parse.Parse(ahead + s); why != api.ErrParse || f != (api.Fault{At: len(ahead) + at, Rule: 3}) {
				t.Errorf("Parse(%q): error %d, %v", ahead+s, why, f)
			}
		}
	}
}

// 3.1: what stands further left of a fault by the grammar and one by the depth; tokens come ahead of both.
func TestFurtherLeft(t *testing.T) {
	tooDeep := nest(65, "(", "1", ")")
	for s, want := range map[string]api.Fault{
		tooDeep + " 1": {At: 64, Rule: 3}, "1 1 " + tooDeep: {At: 2, Rule: 2}, nest(64, "(", ")", ""): {At: 64, Rule: 2}, nest(64, "-", "*(1", ""): {At: 64, Rule: 2}, tooDeep + "$": {At: 131, Rule: 1}, "1 1" + tooDeep + " 1a": {At: 136, Rule: 1},
	} {
		if _, why, f := parse.Expr(s); why != api.ErrParse || f != want {
			t.Errorf("Expr(%q): error %d, %v, not %v", s, why, f, want)
		}
	}
}

// 3.1: how deep blocks may lie, of each statement that has them.
func TestDeepBlocks(t *testing.T) {
	for _, open := range []string{"if(x){", "while(x){", "lock l{", "if(x){}else{"} {
		ahead := "thread a{" + strings.Repeat(open, 63)
		p := program(t, ahead+"skip;"+strings.Repeat("}", 64))
		if got := parse.Deep(p); got != 64 {
			t.Errorf("%d deep by %q", got, open)
		}
		for _, last := range []string{"if(x){", "while(x){", "lock l{", "if(x){}}}}", "lock l{}$"} {
			want := api.Fault{At: len(ahead) + strings.Index(last, "{"), Rule: 3}
			if strings.HasSuffix(last, "$") {
				want = api.Fault{At: len(ahead+last) - 1, Rule: 1}
			}
			if _, why, f := parse.Parse(ahead + last); why != api.ErrParse || f != want {
				t.Errorf("%q in %q: error %d, %v, not %v", last, open, why, f, want)
			}
		}
		for _, last := range []string{"if(x)", "while(x)x", "lock{", "if(){"} {
			if _, why, f := parse.Parse(ahead + last); why != api.ErrParse || f.Rule != 2 {
				t.Errorf("%q in %q: error %d, %v", last, open, why, f)
			}
		}
	}
	// An Else is as deep as its Body; what stands behind a block is no deeper than what stands ahead of it.
	program(t, "thread a{"+strings.Repeat("if(x){}else{", 63)+strings.Repeat("}", 63)+strings.Repeat("lock l{} if(x){}else{}", 99)+"}")
}

// 3.1: how long a text may be.
func TestLong(t *testing.T) {
	s := strings.Repeat(" ", api.MaxText)
	program(t, s)
	full := "thread a{" + strings.Repeat("x=1;", 16381) + "  }"
	if p := program(t, full); len(full) != api.MaxText || len(p.Threads[0].Body) != 16381 {
		t.Error("a text of MaxText bytes that is full:", len(full))
	}
	e := expr(t, s[1:]+"x")
	if e.At != api.MaxText-1 {
		t.Error(e)
	}
	for _, long := range []string{s + " ", s + "$", s + "x", strings.Repeat("(", 1<<20)} {
		if p, why, f := parse.Parse(long); why != api.ErrLong || f != (api.Fault{}) || !reflect.DeepEqual(p, api.Program{}) {
			t.Errorf("Parse of %d bytes: error %d, %v", len(long), why, f)
		}
		if e, why, f := parse.Expr(long); why != api.ErrLong || f != (api.Fault{}) || !reflect.DeepEqual(e, api.Expr{}) {
			t.Errorf("Expr of %d bytes: error %d, %v", len(long), why, f)
		}
	}
	if _, why, f := parse.Parse(s[1:] + "x"); why != api.ErrParse || f != (api.Fault{At: api.MaxText - 1, Rule: 2}) {
		t.Error(why, f)
	}
}

// 3.5: blanks and remarks change nothing but places.
func TestBlanks(t *testing.T) {
	s := "shared x=-3,y;lock l;thread a{local r,q;r=x+2*-y;if(!(x<1)){lock l{print r;}}else{r=swap(x,r);}while(1){skip;}}thread b{}"
	want := program(t, s)
	tokens, _, _ := lexer.Scan(s)
	for _, blank := range []string{" ", "\t\r\n", "// x $ 01\n", " //\n// }\n"} {
		wide := blank
		for _, x := range tokens {
			wide += x.Text + blank
		}
		got := program(t, wide)
		if !parse.Same(got, want) || !reflect.DeepEqual(program(t, s), want) {
			t.Errorf("with %q: %+v", blank, got)
		}
		again, _, _ := lexer.Scan(wide)
		at := func(n int) int { return again[n].At }
		if got.Shared[1].At != at(6) || got.Threads[0].At != at(12) || got.Threads[0].Body[0].At != at(19) || got.Threads[0].Body[0].E[0].At != at(22) {
			t.Errorf("places with %q: %+v", blank, got)
		}
	}
}

// P1: any bytes and any tokens.
func TestAnyText(t *testing.T) {
	x := uint64(1)
	pieces := strings.Fields("shared lock thread local if else while print skip swap a b 0 1 ( ) { } { } , ; ; = + - ! <= $")
	for n := range 20000 {
		s := ""
		for range n % 30 {
			x = x*6364136223846793005 + 1442695040888963407
			if n%2 == 0 {
				s += pieces[x>>33%uint64(len(pieces))] + " "
			} else {
				s += string([]byte{byte(x >> 56)})
			}
		}
		if p, why, f := parse.Parse(s); why != api.OK && (why != api.ErrParse || f.At < 0 || f.At > len(s) || f.Rule < 1 || f.Rule > 3 || !reflect.DeepEqual(p, api.Program{})) {
			t.Fatalf("Parse(%q): %v, error %d, %v", s, p, why, f)
		}
		parse.Expr(s)
	}
}

// P3, P4: the same answers at each time, and from many at one time; no goroutine is left.
func TestAlways(t *testing.T) {
	ahead := runtime.NumGoroutine()
	s := "shared x; thread a { if (x) { x = - 1 + (2); } else { print x; } }"
	done := make(chan api.Program)
	for range 8 {
		go func() {
			var p api.Program
			for range 100 {
				p, _, _ = parse.Parse(s)
				parse.Parse(s[:40])
				parse.Expr(nest(70, "(", "", ""))
			}
			done <- p
		}()
	}
	want := program(t, s)
	for range 8 {
		if !reflect.DeepEqual(<-done, want) {
			t.Error("two answers to one question")
		}
	}
	for range 1000 {
		if runtime.NumGoroutine() <= ahead {
			return
		}
		time.Sleep(time.Millisecond)
	}
	t.Error("goroutines are left")
}
