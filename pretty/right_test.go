package pretty_test

import (
	"math/rand/v2"
	"reflect"
	"slices"
	"strings"
	"testing"

	"stile/api"
	"stile/lexer"
	"stile/parse"
	"stile/pretty"
	"stile/words"
)

// grower makes trees that are right, by chance.
type grower struct{ *rand.Rand }

func newGrower(seed uint64) grower { return grower{rand.New(rand.NewPCG(4, seed))} }

func (g grower) name() string {
	return []string{"a", "b", "x", "y", "_", "if9", "Lock", strings.Repeat("n", 32)}[g.IntN(8)]
}

func (g grower) decls(words bool) []api.Decl {
	var l []api.Decl
	for range g.IntN(4) {
		d := api.Decl{Name: g.name(), At: g.IntN(9)}
		if words {
			d.Word = []int64{0, 1, -1, 1<<63 - 1, -1<<63 + 1}[g.IntN(5)]
		}
		l = append(l, d)
	}
	return l
}

func (g grower) expr(wide int) api.Expr {
	e := api.Expr{At: g.IntN(9)}
	switch n := g.IntN(8); {
	case wide <= 0 && n < 4:
		e.Kind, e.Name = api.ExprName, g.name()
	case wide <= 0:
		e.Kind, e.Word = api.ExprNumber, []int64{0, 7, 1<<63 - 1}[g.IntN(3)]
	case n < 2:
		e.Kind, e.Op, e.Kids = api.ExprUnary, []api.Op{api.OpMinus, api.OpNot}[n], []api.Expr{g.expr(wide - 1)}
	default:
		e.Kind, e.Op, e.Kids = api.ExprBinary, api.Op(1+g.IntN(16)), []api.Expr{g.expr(wide - 1 - g.IntN(3)), g.expr(wide - 1 - g.IntN(3))}
	}
	return e
}

func (g grower) value() []api.Expr { return []api.Expr{g.expr(g.IntN(5))} }

func (g grower) block(wide int) []api.Stmt {
	var l []api.Stmt
	for range g.IntN(4) {
		s := api.Stmt{At: g.IntN(9)}
		switch n := g.IntN(8); {
		case n == 0:
			s.Kind, s.Name, s.Other, s.E = api.StmtSwap, g.name(), g.name(), g.value()
		case n == 1:
			s.Kind, s.E = api.StmtPrint, g.value()
		case n == 2:
			s.Kind = api.StmtSkip
		case n == 3 || wide <= 0:
			s.Kind, s.Name, s.E = api.StmtAssign, g.name(), g.value()
		case n == 4:
			s.Kind, s.Name, s.Body = api.StmtLock, g.name(), g.block(wide-1)
		case n == 5:
			s.Kind, s.E, s.Body = api.StmtWhile, g.value(), g.block(wide-1)
		default:
			s.Kind, s.E, s.Body, s.Else = api.StmtIf, g.value(), g.block(wide-1), g.block(wide-1)
		}
		l = append(l, s)
	}
	return l
}

func (g grower) program() api.Program {
	p := api.Program{Shared: g.decls(true), Locks: g.decls(false)}
	for range g.IntN(4) {
		p.Threads = append(p.Threads, api.Thread{Name: g.name(), At: g.IntN(9), Locals: g.decls(false), Body: g.block(1 + g.IntN(4))})
	}
	return p
}

// plain writes any tree as chapter 4 says, with no thought of whether it is right; $ stands for what has no text.
func plain(p api.Program) string {
	s := plainDecls("shared ", p.Shared, "") + plainDecls("lock ", p.Locks, "")
	for _, t := range p.Threads {
		s += "thread " + t.Name + " {\n" + plainDecls("local ", t.Locals, "  ") + plainBlock(t.Body, "  ") + "}\n"
	}
	return s
}

func plainDecls(word string, l []api.Decl, in string) string {
	var parts []string
	for _, d := range l {
		parts = append(parts, d.Name)
		if d.Word != 0 {
			parts[len(parts)-1] += " = " + words.Print(d.Word)
		}
	}
	if parts == nil {
		return ""
	}
	return in + word + strings.Join(parts, ", ") + ";\n"
}

func plainBlock(l []api.Stmt, in string) string {
	s := ""
	for _, x := range l {
		e := "$"
		if len(x.E) > 0 {
			e = plainExpr(x.E[0])
		}
		inner := "{\n" + plainBlock(x.Body, in+"  ") + in + "}"
		if len(x.Else) > 0 {
			inner += " else {\n" + plainBlock(x.Else, in+"  ") + in + "}"
		}
		texts := []string{"$", x.Name + " = " + e + ";", x.Name + " = swap(" + x.Other + ", " + e + ");", "if (" + e + ") " + inner, "while (" + e + ") " + inner, "lock " + x.Name + " " + inner, "print " + e + ";", "skip;", "$"}
		s += in + texts[min(int(x.Kind), len(texts)-1)] + "\n"
	}
	return s
}

func plainExpr(e api.Expr) string {
	kid := func(i int, wraps func(kid api.Expr) bool) string {
		if i >= len(e.Kids) {
			return "$"
		}
		if s := plainExpr(e.Kids[i]); e.Kids[i].Kind != api.ExprBinary || !wraps(e.Kids[i]) {
			return s
		} else {
			return "(" + s + ")"
		}
	}
	switch e.Kind {
	case api.ExprNumber:
		return words.Print(e.Word)
	case api.ExprName:
		return e.Name
	case api.ExprUnary:
		return words.Show(e.Op) + kid(0, func(api.Expr) bool { return true })
	case api.ExprBinary:
		left := kid(0, func(k api.Expr) bool { return words.Level(k.Op) < words.Level(e.Op) })
		return left + " " + words.Show(e.Op) + " " + kid(1, func(k api.Expr) bool { return words.Level(k.Op) <= words.Level(e.Op) })
	}
	return "$"
}

// verdict is what Check must say: whether the text is one that Parse takes and reads as this tree.
func verdict(p api.Program) api.Errno {
	s := plain(p)
	q, why, _ := parse.Parse(s)
	if why == api.ErrLong {
		return api.ErrLong
	}
	if why != api.OK || !parse.Same(p, q) {
		return api.ErrTree
	}
	return api.OK
}

// hold is what everything says of a tree, held against what it must.
func hold(t *testing.T, p api.Program) {
	t.Helper()
	want := verdict(p)
	if want != api.OK {
		refused(t, p, want)
	} else if got := text(t, p); got != plain(p) {
		t.Errorf("%q, not %q", got, plain(p))
	}
}

// 4.1, 4.5: trees that are right; there and back; Laid is what is read there.
func TestBack(t *testing.T) {
	g := newGrower(1)
	for range 2000 {
		p := g.program()
		s := text(t, p)
		q, why, f := parse.Parse(s)
		if why != api.OK || !parse.Same(p, q) || s != plain(p) {
			t.Fatalf("%+v: %q, error %d, %v", p, s, why, f)
		}
		if laid, why := pretty.Laid(p); why != api.OK || !reflect.DeepEqual(laid, q) {
			t.Fatalf("%+v: %+v, error %d", p, laid, why)
		}
		for _, x := range p.Threads {
			for _, st := range x.Body {
				for _, e := range st.E {
					s := exprText(t, e)
					if !parse.SameExpr(expr(t, s), e) || s != plainExpr(e) {
						t.Fatalf("%+v: %q", e, s)
					}
				}
			}
		}
	}
}

// 4.6: what Parse takes of any text is written in one way, or is too long.
func TestOneWay(t *testing.T) {
	g := newGrower(2)
	for range 1000 {
		l, _, _ := lexer.Scan(text(t, g.program()))
		dense := ""
		for i, x := range l {
			if next := append(l, api.Token{})[i+1].Text; x.Kind == api.TokenSign && next == "(" && g.IntN(2) == 0 && x.Text != ")" && x.Text != "}" {
				dense += x.Text + "\n// r\n"
			} else {
				dense += x.Text + []string{" ", "\t", "\n"}[g.IntN(3)]
			}
		}
		s := text(t, program(t, dense))
		if again := text(t, program(t, s)); again != s {
			t.Fatalf("%q: %q, then %q", dense, s, again)
		}
	}
	// A text that Parse takes, of which the tree's text is too long.
	long := "thread a{" + strings.Repeat("if(x){", 60) + strings.Repeat("skip;", 2000) + strings.Repeat("}", 61)
	refused(t, program(t, long), api.ErrLong)
}

// 4.7: with any parenthesis and its other left out it is another expression, or none.
func TestNoMoreParentheses(t *testing.T) {
	g := newGrower(3)
	n := 0
	for range 2000 {
		e := g.expr(1 + g.IntN(6))
		s := exprText(t, e)
		var open []int
		for i := range len(s) {
			switch s[i] {
			case '(':
				open = append(open, i)
			case ')':
				from := open[len(open)-1]
				open = open[:len(open)-1]
				less := s[:from] + " " + s[from+1:i] + " " + s[i+1:]
				if other, why, _ := parse.Expr(less); why == api.OK && parse.SameExpr(e, other) {
					t.Fatalf("%q needs no more than %q", s, less)
				}
				n++
			}
		}
	}
	if n < 2000 {
		t.Error("only", n, "parentheses")
	}
}

// 4.8: renamed there and back it is the tree; a name that is not there changes nothing.
func TestRenameBack(t *testing.T) {
	g := newGrower(4)
	for range 500 {
		p := g.program()
		names := pretty.Names(p)
		for _, from := range append(names, "q") {
			q, why := pretty.Rename(p, from, "k")
			back, no := pretty.Rename(q, "k", from)
			if why != api.OK || no != api.OK || !reflect.DeepEqual(back, p) {
				t.Fatalf("%+v by %q: %+v, error %d, %+v, error %d", p, from, q, why, back, no)
			}
			want := slices.DeleteFunc(slices.Clone(names), func(s string) bool { return s == from })
			if slices.Contains(names, from) {
				want = append(want, "k")
				slices.Sort(want)
			} else if !reflect.DeepEqual(q, p) {
				t.Fatalf("%q is not there: %+v", from, q)
			}
			if got := pretty.Names(q); !slices.Equal(got, want) {
				t.Fatalf("%q: %q, not %q", from, got, want)
			}
		}
	}
}

// spoil sets one field of a tree, by chance, to something else.
func (g grower) spoil(p *api.Program) {
	var fields []reflect.Value
	var walk func(v reflect.Value)
	walk = func(v reflect.Value) {
		switch v.Kind() {
		case reflect.Struct:
			for i := range v.NumField() {
				walk(v.Field(i))
			}
		case reflect.Slice:
			fields = append(fields, v)
			for i := range v.Len() {
				walk(v.Index(i))
			}
		default:
			fields = append(fields, v)
		}
	}
	walk(reflect.ValueOf(p).Elem())
	v := fields[g.IntN(len(fields))]
	switch v.Kind() {
	case reflect.String:
		v.SetString([]string{"", "x", "if", "9", "$", "x y", "x = 1; y", "1", "-1", "(x)", strings.Repeat("n", 33), "x, y", "y // ", "a + b"}[g.IntN(14)])
	case reflect.Int, reflect.Int64:
		v.SetInt([]int64{0, 1, -1, 1<<63 - 1, -1 << 63, 5}[g.IntN(6)])
	case reflect.Uint8:
		v.SetUint([]uint64{0, 1, 2, 3, 4, 5, 6, 7, 8, 11, 17, 18, 19, 255}[g.IntN(14)])
	case reflect.Slice:
		switch n := v.Len(); g.IntN(3) {
		case 0:
			v.SetLen(max(n-1, 0))
		case 1:
			v.Set(reflect.Append(v, reflect.Zero(v.Type().Elem())))
		case 2:
			x := reflect.New(v.Type().Elem()).Elem()
			if n > 0 {
				x = v.Index(g.IntN(n))
			}
			v.Set(reflect.Append(v, x))
		}
	}
}

// 4.1, P1: trees of which a field or two are others are right just if their text is read as they are.
func TestSpoilt(t *testing.T) {
	g := newGrower(5)
	seen := map[api.Errno]int{}
	for range 20000 {
		p := g.program()
		for range 1 + g.IntN(2) {
			g.spoil(&p)
		}
		seen[verdict(p)]++
		if hold(t, p); t.Failed() {
			return
		}
	}
	if seen[api.OK] < 2000 || seen[api.ErrTree] < 2000 {
		t.Error("of each:", seen)
	}
}

// 4.1: what a tree may not have, one thing each.
func TestWrongTrees(t *testing.T) {
	x, no := name("x"), []api.Stmt{{Kind: api.StmtSkip}}
	e := []api.Expr{x}
	for _, s := range []api.Stmt{
		{}, {Kind: api.StmtCount}, {Kind: 255},
		{Kind: api.StmtAssign, E: e}, {Kind: api.StmtAssign, Name: "if", E: e}, {Kind: api.StmtAssign, Name: "x"}, {Kind: api.StmtAssign, Name: "x", E: []api.Expr{x, x}}, {Kind: api.StmtAssign, Name: "x", Other: "y", E: e}, {Kind: api.StmtAssign, Name: "x", E: e, Body: no}, {Kind: api.StmtAssign, Name: "x", E: e, Else: no},
		{Kind: api.StmtSwap, Name: "x", E: e}, {Kind: api.StmtSwap, Other: "x", E: e}, {Kind: api.StmtSwap, Name: "x", Other: "y"}, {Kind: api.StmtSwap, Name: "x", Other: "1", E: e}, {Kind: api.StmtSwap, Name: "x", Other: "y", E: e, Body: no}, {Kind: api.StmtSwap, Name: "x", Other: "y", E: e, Else: no},
		{Kind: api.StmtIf}, {Kind: api.StmtIf, E: e, Name: "x"}, {Kind: api.StmtIf, E: e, Other: "x"}, {Kind: api.StmtIf, E: []api.Expr{x, x}},
		{Kind: api.StmtWhile, Body: no}, {Kind: api.StmtWhile, E: e, Else: no}, {Kind: api.StmtWhile, E: e, Name: "x"}, {Kind: api.StmtWhile, E: e, Other: "x"},
		{Kind: api.StmtLock}, {Kind: api.StmtLock, Name: "l", E: e}, {Kind: api.StmtLock, Name: "l", Else: no}, {Kind: api.StmtLock, Name: "l", Other: "x"}, {Kind: api.StmtLock, Name: "lock"},
		{Kind: api.StmtPrint}, {Kind: api.StmtPrint, E: e, Name: "x"}, {Kind: api.StmtPrint, E: e, Other: "x"}, {Kind: api.StmtPrint, E: e, Body: no}, {Kind: api.StmtPrint, E: e, Else: no},
		{Kind: api.StmtSkip, E: e}, {Kind: api.StmtSkip, Name: "x"}, {Kind: api.StmtSkip, Other: "x"}, {Kind: api.StmtSkip, Body: no}, {Kind: api.StmtSkip, Else: no},
	} {
		refused(t, body(s), api.ErrTree)
		refused(t, body(api.Stmt{Kind: api.StmtIf, E: e, Else: []api.Stmt{s}}), api.ErrTree)
		refused(t, body(api.Stmt{Kind: api.StmtLock, Name: "l", Body: []api.Stmt{{Kind: api.StmtWhile, E: e, Body: []api.Stmt{s}}}}), api.ErrTree)
	}
	for _, wrong := range []api.Expr{
		{}, {Kind: api.ExprCount}, {Kind: 255, Name: "x"},
		num(-1), num(-1 << 63), {Kind: api.ExprNumber, Name: "x"}, {Kind: api.ExprNumber, Op: api.OpAdd}, {Kind: api.ExprNumber, Kids: e},
		name(""), name("if"), name("9"), name(strings.Repeat("n", 33)), {Kind: api.ExprName, Name: "x", Word: 1}, {Kind: api.ExprName, Name: "x", Op: api.OpMinus}, {Kind: api.ExprName, Name: "x", Kids: e},
		one(api.OpNone, x), one(api.OpSub, x), one(api.OpCount, x), one(255, x), {Kind: api.ExprUnary, Op: api.OpNot}, {Kind: api.ExprUnary, Op: api.OpNot, Kids: []api.Expr{x, x}}, {Kind: api.ExprUnary, Op: api.OpNot, Kids: e, Word: 1}, {Kind: api.ExprUnary, Op: api.OpNot, Kids: e, Name: "x"},
		two(api.OpNone, x, x), two(api.OpMinus, x, x), two(api.OpNot, x, x), two(api.OpCount, x, x), {Kind: api.ExprBinary, Op: api.OpAdd}, {Kind: api.ExprBinary, Op: api.OpAdd, Kids: e}, {Kind: api.ExprBinary, Op: api.OpAdd, Kids: []api.Expr{x, x, x}}, {Kind: api.ExprBinary, Op: api.OpAdd, Kids: []api.Expr{x, x}, Word: 1}, {Kind: api.ExprBinary, Op: api.OpAdd, Kids: []api.Expr{x, x}, Name: "x"},
	} {
		for _, e := range []api.Expr{wrong, one(api.OpNot, wrong), two(api.OpAdd, wrong, x), two(api.OpAdd, x, one(api.OpMinus, wrong))} {
			if s, why := pretty.Expr(e); s != "" || why != api.ErrTree {
				t.Errorf("Expr(%+v): %q, error %d", e, s, why)
			}
			refused(t, body(printing(e)), api.ErrTree)
			refused(t, body(api.Stmt{Kind: api.StmtIf, E: []api.Expr{e}}), api.ErrTree)
		}
	}
	for _, bad := range []string{"", "if", "9", "x y", "x$", strings.Repeat("n", 33)} {
		l := []api.Decl{{Name: "x"}, {Name: bad}}
		refused(t, api.Program{Shared: l}, api.ErrTree)
		refused(t, api.Program{Locks: l}, api.ErrTree)
		refused(t, api.Program{Threads: []api.Thread{{Name: "a", Locals: l}}}, api.ErrTree)
		refused(t, api.Program{Threads: []api.Thread{{Name: "a"}, {Name: bad}}}, api.ErrTree)
	}
	refused(t, api.Program{Shared: []api.Decl{{Name: "x", Word: -1 << 63}}}, api.ErrTree)
	for _, w := range []int64{1, -1, -1 << 63} {
		refused(t, api.Program{Locks: []api.Decl{{Name: "x", Word: w}}}, api.ErrTree)
		refused(t, api.Program{Threads: []api.Thread{{Name: "a", Locals: []api.Decl{{Name: "x", Word: w}}}}}, api.ErrTree)
	}
	// Whatever else rules of other layers say: names that stand twice, many of them, none declared.
	many := slices.Repeat([]api.Decl{{Name: "x"}}, 99)
	if got := text(t, api.Program{Shared: many, Locks: many, Threads: []api.Thread{{Name: "x", Locals: many, Body: []api.Stmt{printing(name("y"))}}}}); strings.Count(got, "x") != 3*99+1 {
		t.Errorf("%q", got)
	}
}

// 4.1: how deep parts of expressions may lie, parentheses counted.
func TestDeepParts(t *testing.T) {
	g := newGrower(6)
	seen := map[api.Errno]int{}
	for range 1000 {
		e := num(1)
		for range 64 + g.IntN(60) {
			switch g.IntN(6) {
			case 0:
				e = one(api.OpNot, e)
			case 1:
				e = two(api.OpAdd, e, num(1))
			case 2:
				e = two(api.OpAdd, num(1), e)
			case 3:
				e = two(api.OpMul, e, e)
				e.Kids[1] = num(2)
			case 4:
				e = two(api.OpMul, num(2), e)
			case 5:
				e = one(api.OpMinus, e)
			}
		}
		want := api.OK
		if got, why, _ := parse.Expr(plainExpr(e)); why != api.OK {
			want = api.ErrTree
		} else if !parse.SameExpr(got, e) {
			t.Fatal("plain:", e)
		}
		if _, why := pretty.Expr(e); why != want {
			t.Fatalf("%q: error %d, not %d", plainExpr(e), why, want)
		}
		hold(t, body(api.Stmt{Kind: api.StmtWhile, E: []api.Expr{e}}))
		seen[want]++
	}
	if seen[api.OK] < 100 || seen[api.ErrTree] < 100 {
		t.Error("of each:", seen)
	}
	e := num(1)
	for n := range api.MaxDeep + 2 {
		if _, why := pretty.Expr(e); (why == api.OK) != (n <= api.MaxDeep) {
			t.Error(n, "signs of one:", why)
		}
		e = one(api.OpMinus, e)
	}
	e = num(1)
	for n := range api.MaxDeep + 2 {
		if _, why := pretty.Expr(two(api.OpSub, num(1), e)); (why == api.OK) != (n <= api.MaxDeep) {
			t.Error(n, "parentheses:", why)
		}
		e = two(api.OpSub, num(1), e)
	}
}

// 4.1: how deep blocks may lie; an Else that is empty is none.
func TestDeepBlocks(t *testing.T) {
	e := []api.Expr{num(1)}
	for _, wrap := range []func(l []api.Stmt) api.Stmt{
		func(l []api.Stmt) api.Stmt { return api.Stmt{Kind: api.StmtIf, E: e, Body: l} },
		func(l []api.Stmt) api.Stmt { return api.Stmt{Kind: api.StmtIf, E: e, Else: l} },
		func(l []api.Stmt) api.Stmt { return api.Stmt{Kind: api.StmtWhile, E: e, Body: l} },
		func(l []api.Stmt) api.Stmt { return api.Stmt{Kind: api.StmtLock, Name: "l", Body: l} },
	} {
		l := []api.Stmt{{Kind: api.StmtSkip}}
		for n := 1; n < api.MaxDeep+3; n++ {
			p := body(l...)
			if want := verdict(p); (want == api.OK) != (n <= api.MaxDeep) {
				t.Fatal("plain:", n, want)
			}
			hold(t, p)
			l = []api.Stmt{wrap(l)}
		}
	}
	l := []api.Stmt{}
	for n := range api.MaxDeep + 1 {
		if why := pretty.Check(body(l...)); (why == api.OK) != (n < api.MaxDeep) {
			t.Error(n, "with empty blocks:", why)
		}
		l = []api.Stmt{{Kind: api.StmtIf, E: e, Body: l, Else: []api.Stmt{}}}
	}
}

// P1: trees made by hand, as deep as may be, of any kinds.
func TestByHand(t *testing.T) {
	const far = 1<<16 - 8
	for kind := range api.ExprKind(6) {
		e := name("x")
		s := api.Stmt{Kind: api.StmtSkip}
		for range far {
			e = api.Expr{Kind: kind, Op: api.OpMinus, Kids: []api.Expr{e}}
			s = api.Stmt{Kind: api.StmtKind(kind), Name: "l", Else: []api.Stmt{s}}
		}
		for _, p := range []api.Program{body(s), body(printing(e))} {
			refused(t, p, api.ErrTree)
			if got := pretty.Names(p); len(got) < 2 || !parse.Same(pretty.Strip(p), p) {
				t.Error("names:", got)
			}
		}
		if _, why := pretty.Expr(e); why != api.ErrTree {
			t.Error("error", why)
		}
	}
	e := name("x")
	for range far {
		e = two(api.OpAdd, e, e)
		e.Kids[1] = num(1)
	}
	if _, why := pretty.Expr(e); why != api.ErrLong {
		t.Error("error", why)
	}
	refused(t, body(printing(e)), api.ErrLong)
	if q, why := pretty.Rename(body(printing(e)), "x", "y"); why != api.OK || !slices.Equal(pretty.Names(q), []string{"a", "y"}) {
		t.Error("error", why)
	}
}
