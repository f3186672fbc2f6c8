package pretty_test

import (
	"reflect"
	"runtime"
	"slices"
	"strings"
	"testing"
	"time"

	"stile/api"
	"stile/parse"
	"stile/pretty"
)

func program(t *testing.T, s string) api.Program {
	t.Helper()
	p, why, f := parse.Parse(s)
	if why != api.OK {
		t.Fatalf("Parse(%.300q): error %d, %v", s, why, f)
	}
	return p
}

func expr(t *testing.T, s string) api.Expr {
	t.Helper()
	e, why, f := parse.Expr(s)
	if why != api.OK {
		t.Fatalf("Expr(%.300q): error %d, %v", s, why, f)
	}
	return e
}

func text(t *testing.T, p api.Program) string {
	t.Helper()
	s, why := pretty.Print(p)
	if check := pretty.Check(p); why != api.OK || check != why {
		t.Fatalf("Print(%.300v): error %d, Check: %d", p, why, check)
	}
	return s
}

func exprText(t *testing.T, e api.Expr) string {
	t.Helper()
	s, why := pretty.Expr(e)
	if why != api.OK {
		t.Fatalf("Expr(%.300v): error %d", e, why)
	}
	return s
}

func num(w int64) api.Expr { return api.Expr{Kind: api.ExprNumber, Word: w} }

func name(s string) api.Expr { return api.Expr{Kind: api.ExprName, Name: s} }

func one(op api.Op, kid api.Expr) api.Expr {
	return api.Expr{Kind: api.ExprUnary, Op: op, Kids: []api.Expr{kid}}
}

func two(op api.Op, left, right api.Expr) api.Expr {
	return api.Expr{Kind: api.ExprBinary, Op: op, Kids: []api.Expr{left, right}}
}

func printing(e api.Expr) api.Stmt { return api.Stmt{Kind: api.StmtPrint, E: []api.Expr{e}} }

func body(l ...api.Stmt) api.Program {
	return api.Program{Threads: []api.Thread{{Name: "a", Body: l}}}
}

// refused holds all that have an error with a tree against the error.
func refused(t *testing.T, p api.Program, want api.Errno) {
	t.Helper()
	if why := pretty.Check(p); why != want {
		t.Errorf("Check(%.300v): error %d, not %d", p, why, want)
	}
	if s, why := pretty.Print(p); s != "" || why != want {
		t.Errorf("Print(%.300v): %.80q, error %d, not %d", p, s, why, want)
	}
	if q, why := pretty.Laid(p); !reflect.DeepEqual(q, api.Program{}) || why != want {
		t.Errorf("Laid(%.300v): %.80v, error %d, not %d", p, q, why, want)
	}
	if want == api.ErrTree {
		if q, why := pretty.Rename(p, "x", "if"); !reflect.DeepEqual(q, api.Program{}) || why != want {
			t.Errorf("Rename(%.300v): %.80v, error %d, not %d", p, q, why, want)
		}
	}
}

// 4.1: texts of expressions, with no more parentheses than it takes.
func TestExpr(t *testing.T) {
	for s, want := range map[string]string{
		"a + b * c": "a + b * c", "(a + b) * c": "(a + b) * c", "a - (b - c)": "a - (b - c)", "(a - b) - c": "a - b - c", "-(a)": "-a", "- -1": "--1", "!(a == b)": "!(a == b)", "a < (b == c)": "a < (b == c)",
		"0": "0", "9223372036854775807": "9223372036854775807", "((x))": "x", "a+(b+c)": "a + (b + c)", "(a*b)+c": "a * b + c", "a+(b*c)": "a + b * c", "a*(b+c)": "a * (b + c)", "-(-(a))": "--a", "!-!a": "!-!a", "-(a)*b": "-a * b", "-(a*b)": "-(a * b)", "a - -b": "a - -b", "a--b": "a - -b", "(-a)-(-b)": "-a - -b", "a-(-b-c)": "a - (-b - c)", "(a<b)==(c<d)": "a < b == c < d", "a|b^c&d": "a | b ^ c & d", "((a|b)^c)&d": "((a | b) ^ c) & d", "a<<(b<<c)>>d": "a << (b << c) >> d", "a==(b==c)": "a == (b == c)", "!(!(a|b))": "!!(a | b)", "-(1)": "-1",
	} {
		if got := exprText(t, expr(t, s)); got != want {
			t.Errorf("%q: %q, not %q", s, got, want)
		}
	}
}

// 4.1: the text of a program with everything in it; and of ones with little.
func TestPrint(t *testing.T) {
	for s, want := range map[string]string{
		"":                        "",
		"// r":                    "",
		"thread a{}":              "thread a {\n}\n",
		"shared x=-3;":            "shared x = -3;\n",
		"shared x=-0,y=0;lock l;": "shared x, y;\nlock l;\n",
		"lock b,a;shared y;lock c;shared x=9223372036854775807,z=-9223372036854775807;": "shared y, x = 9223372036854775807, z = -9223372036854775807;\nlock b, a, c;\n",
		"thread a{local r;local s,t;}thread b{skip;}":                                   "thread a {\n  local r, s, t;\n}\nthread b {\n  skip;\n}\n",
		"thread a{if(x){}}":                          "thread a {\n  if (x) {\n  }\n}\n",
		"thread a{if(x){}else{}}":                    "thread a {\n  if (x) {\n  }\n}\n",
		"thread a{if((x)){}else{skip;}}":             "thread a {\n  if (x) {\n  } else {\n    skip;\n  }\n}\n",
		"thread a{while((x)+1){}}":                   "thread a {\n  while (x + 1) {\n  }\n}\n",
		"thread a{lock l{}}":                         "thread a {\n  lock l {\n  }\n}\n",
		"thread a{x=(y);x=swap(z,(-(1)));print(x);}": "thread a {\n  x = y;\n  x = swap(z, -1);\n  print x;\n}\n",
		"shared x=-3,y;lock l;thread a{local r;if(x){r=swap(x,1);}else{skip;}}": "shared x = -3, y;\nlock l;\nthread a {\n  local r;\n  if (x) {\n    r = swap(x, 1);\n  } else {\n    skip;\n  }\n}\n",
		"thread a{while(1){if(x){lock l{print 1;}x=2;}else{if(y){skip;}}}}":     "thread a {\n  while (1) {\n    if (x) {\n      lock l {\n        print 1;\n      }\n      x = 2;\n    } else {\n      if (y) {\n        skip;\n      }\n    }\n  }\n}\n",
	} {
		if got := text(t, program(t, s)); got != want {
			t.Errorf("%q: %q, not %q", s, got, want)
		}
	}
}

// 4.1: nil and empty lists alike.
func TestEmptyLists(t *testing.T) {
	p := api.Program{Shared: []api.Decl{}, Locks: []api.Decl{}, Threads: []api.Thread{{Name: "a", Locals: []api.Decl{}, Body: []api.Stmt{
		{Kind: api.StmtSkip, E: []api.Expr{}, Body: []api.Stmt{}, Else: []api.Stmt{}},
		{Kind: api.StmtIf, E: []api.Expr{{Kind: api.ExprName, Name: "x", Kids: []api.Expr{}}}, Else: []api.Stmt{}},
	}}}}
	if got := text(t, p); got != "thread a {\n  skip;\n  if (x) {\n  }\n}\n" {
		t.Errorf("%q", got)
	}
}

// filled is a program whose text has just so many bytes.
func filled(n int) api.Program {
	n -= len("thread a {\n}\n")
	skips := n/8 - 2
	long := strings.Repeat("n", n-8*skips-len("   = 1;\n"))
	l := []api.Stmt{{Kind: api.StmtAssign, Name: long, E: []api.Expr{num(1)}}}
	return body(append(l, slices.Repeat([]api.Stmt{{Kind: api.StmtSkip}}, skips)...)...)
}

// 4.1: how long a text may be, to the byte; a tree that is not right is told first.
func TestLong(t *testing.T) {
	for n := range 9 {
		p := filled(api.MaxText - n)
		if s := text(t, p); len(s) != api.MaxText-n || !parse.Same(program(t, s), p) {
			t.Fatal("not so many bytes:", n, len(s))
		}
		if q, why := pretty.Laid(p); why != api.OK || !parse.Same(p, q) {
			t.Error("Laid:", n, why)
		}
		refused(t, filled(api.MaxText+1+n), api.ErrLong)
	}
	p := filled(api.MaxText + 1)
	long := p.Threads[0].Body[0].Name
	if q, why := pretty.Rename(p, long, "y"); why != api.OK || q.Threads[0].Body[0].Name != "y" || text(t, q) == "" {
		t.Error("Rename of a tree that is too long:", why)
	}
	if _, why := pretty.Rename(p, "y", "a"); why != api.ErrRange {
		t.Error("Rename of a tree that is too long:", why)
	}
	p.Threads = append(p.Threads, api.Thread{})
	refused(t, p, api.ErrTree)
}

// 4.1: the same of expressions.
func TestLongExpr(t *testing.T) {
	e := name("aaaa")
	for range (api.MaxText - 4) / 4 {
		e = two(api.OpAdd, e, num(1))
	}
	if s := exprText(t, e); len(s) != api.MaxText || !parse.SameExpr(expr(t, s), e) {
		t.Fatal("not MaxText bytes:", len(s))
	}
	long := one(api.OpMinus, e)
	if s, why := pretty.Expr(long); s != "" || why != api.ErrLong {
		t.Errorf("%.80q, error %d", s, why)
	}
	refused(t, body(printing(e)), api.ErrLong)
	refused(t, body(printing(long)), api.ErrLong)
	for _, wrong := range []api.Expr{two(api.OpAdd, e, num(-1)), two(api.OpAdd, long, api.Expr{}), one(api.OpAdd, e)} {
		if s, why := pretty.Expr(wrong); s != "" || why != api.ErrTree {
			t.Errorf("%.80q, error %d", s, why)
		}
		refused(t, body(printing(wrong)), api.ErrTree)
	}
	huge := slices.Repeat([]api.Decl{{Name: "x"}}, 1<<20)
	refused(t, api.Program{Shared: huge}, api.ErrLong)
	refused(t, api.Program{Shared: append(huge, api.Decl{})}, api.ErrTree)
}

// 4.2: Laid has the places of its text, and is else the same.
func TestLaid(t *testing.T) {
	p := program(t, "  shared x = -3 , y ; thread   a { x = ( ( y ) ) + 1 ; if(x){}else{} }")
	q, why := pretty.Laid(p)
	if want := program(t, "shared x = -3, y;\nthread a {\n  x = y + 1;\n  if (x) {\n  }\n}\n"); why != api.OK || !reflect.DeepEqual(q, want) || !parse.Same(p, q) {
		t.Errorf("%+v, error %d", q, why)
	}
	if q, why := pretty.Laid(api.Program{}); why != api.OK || !reflect.DeepEqual(q, api.Program{}) {
		t.Error("of nothing:", q, why)
	}
}

// 4.2: Strip leaves all but places, of any tree.
func TestStrip(t *testing.T) {
	at := 1
	mark := func() int {
		at = at*7%10007 + 1
		return at
	}
	build := func(mark func() int) api.Program {
		e := func() api.Expr {
			return api.Expr{Kind: 9, Op: 200, Word: -5, Name: "$", At: mark(), Kids: []api.Expr{{At: mark()}, {Kind: api.ExprName, Name: "n", At: mark(), Kids: []api.Expr{{At: mark()}}}}}
		}
		s := func() api.Stmt {
			return api.Stmt{Kind: 99, Name: "1", Other: "", At: mark(), E: []api.Expr{e(), e()}, Body: []api.Stmt{{At: mark()}}, Else: []api.Stmt{{At: mark(), Body: []api.Stmt{{At: mark()}}}}}
		}
		return api.Program{
			Shared:  []api.Decl{{Name: "x", Word: -1 << 63, At: mark()}},
			Locks:   []api.Decl{{Word: 7, At: mark()}, {At: mark()}},
			Threads: []api.Thread{{At: mark()}, {Name: "t", At: mark(), Locals: []api.Decl{{Word: 1, At: mark()}}, Body: []api.Stmt{s(), {Kind: api.StmtIf, At: mark()}}}},
		}
	}
	p := build(mark)
	ahead := parse.Copy(p)
	if got, want := pretty.Strip(p), build(func() int { return 0 }); !reflect.DeepEqual(got, want) {
		t.Errorf("%+v\nnot %+v", got, want)
	}
	if !reflect.DeepEqual(p, ahead) {
		t.Error("Strip changes its tree")
	}
	if got := pretty.Strip(api.Program{}); !reflect.DeepEqual(got, api.Program{}) {
		t.Error("of nothing:", got)
	}
}

// 4.3: all names, once, rising by their bytes; of any tree.
func TestNames(t *testing.T) {
	p := program(t, "shared x=-3,y;lock l,L;thread a{local r,_;if(x){r=swap(q,-w);}else{lock m{while(v){u=!(z+1);}}}}thread b{print k;}")
	if got, want := pretty.Names(p), strings.Fields("L _ a b k l m q r u v w x y z"); !slices.Equal(got, want) {
		t.Error(got)
	}
	any := api.Program{
		Shared:  []api.Decl{{Name: "\xff"}, {}, {Name: "é"}, {Name: "10"}},
		Threads: []api.Thread{{}, {Locals: []api.Decl{{Name: "9"}}, Body: []api.Stmt{{Name: "if", Other: "10", Body: []api.Stmt{{Kind: 50, Other: " o"}}, E: []api.Expr{{Name: "no"}, {Kind: api.ExprUnary, Name: "no", Kids: []api.Expr{{Kind: api.ExprName, Name: "yes", Kids: []api.Expr{{Kind: api.ExprName, Name: "$"}, name("")}}}}}, Else: []api.Stmt{{Kind: api.StmtSkip, Name: "Yes"}}}}}},
	}
	if got, want := pretty.Names(any), []string{" o", "$", "10", "9", "Yes", "if", "yes", "é", "\xff"}; !slices.Equal(got, want) {
		t.Errorf("%q", got)
	}
	if got := pretty.Names(api.Program{}); len(got) != 0 {
		t.Error("of nothing:", got)
	}
}

// 4.3: Rename sets each name that is from, wherever it stands; places stay.
func TestRename(t *testing.T) {
	s := "shared n,y;lock n,l;thread n{local n,r;n=n;r=swap(n,-n+(n*y));n=swap(y,n);if(n){lock n{print n;}}else{while(!n){skip;}}}thread b{print y;}"
	p := program(t, s)
	q, why := pretty.Rename(p, "n", "k")
	if want := program(t, strings.NewReplacer("print", "print", "n", "k").Replace(s)); why != api.OK || !reflect.DeepEqual(q, want) {
		t.Errorf("%+v\nnot %+v, error %d", q, want, why)
	}
	if !reflect.DeepEqual(p, program(t, s)) {
		t.Error("Rename changes its tree")
	}
	for _, from := range []string{"zz", "", "if", "$", "nn", "N"} {
		if q, why := pretty.Rename(p, from, "k"); why != api.OK || !reflect.DeepEqual(q, p) {
			t.Errorf("from %q: %+v, error %d", from, q, why)
		}
	}
	for _, to := range []string{"n", "y", "l", "b", "r", "", "if", "9", "a b", "$", strings.Repeat("m", 33)} {
		for _, from := range []string{"n", "zz", ""} {
			if q, why := pretty.Rename(p, from, to); why != api.ErrRange || !reflect.DeepEqual(q, api.Program{}) {
				t.Errorf("from %q to %q: error %d", from, to, why)
			}
		}
	}
	if q, why := pretty.Rename(p, "n", strings.Repeat("m", 32)); why != api.OK || q.Shared[0].Name != strings.Repeat("m", 32) {
		t.Error("to a name of MaxName bytes:", why)
	}
	for _, to := range []string{"k", "if"} {
		if q, why := pretty.Rename(body(api.Stmt{}), "a", to); why != api.ErrTree || !reflect.DeepEqual(q, api.Program{}) {
			t.Error("of a tree that is not right:", why)
		}
	}
}

// 4.4: answers are new memory; what is handed in stays.
func TestNewMemory(t *testing.T) {
	s := "shared x=1;lock l;thread a{local r;if(x+1){r=swap(x,-1);}else{skip;}}"
	p := program(t, s)
	laid, _ := pretty.Laid(p)
	renamed, _ := pretty.Rename(p, "x", "k")
	for _, q := range []api.Program{laid, renamed, pretty.Strip(p)} {
		q.Shared[0].Name, q.Locks[0].Name = "?", "?"
		a := &q.Threads[0]
		a.Locals[0].Name, a.Body[0].E[0].Kids[0].Name, a.Body[0].Body[0].Other, a.Body[0].Body[0].E[0].Op, a.Body[0].Else[0].Kind = "?", "?", "?", 99, 99
		a.Body[0].Name, a.Name = "?", "?"
	}
	names := pretty.Names(p)
	clear(names)
	if !reflect.DeepEqual(p, program(t, s)) || !slices.Equal(pretty.Names(p), []string{"a", "l", "r", "x"}) {
		t.Error("an answer shares memory:", p)
	}
}

// P3, P4: the same answers at each time, and from many at one time; no goroutine is left.
func TestAlways(t *testing.T) {
	ahead := runtime.NumGoroutine()
	p := program(t, "shared e,d,c,b,a; thread z { if (a) { b = - 1 + (2); } else { print c; } }")
	tell := func() string {
		s, _ := pretty.Print(p)
		q, _ := pretty.Rename(p, "a", "k")
		k, why := pretty.Print(q)
		_, wrong := pretty.Print(body(api.Stmt{}))
		return s + strings.Join(pretty.Names(p), " ") + k + string(rune('0'+why)) + string(rune('0'+wrong))
	}
	done := make(chan string)
	for range 8 {
		go func() {
			all := ""
			for range 50 {
				all = tell()
			}
			done <- all
		}()
	}
	want := tell()
	for range 8 {
		if <-done != want {
			t.Error("two answers to one question")
		}
	}
	for range 1000 {
		if runtime.NumGoroutine() <= ahead {
			return
		}
		time.Sleep(time.Millisecond)
	}
	t.Error("goroutines are left")
}
