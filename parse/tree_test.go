package parse_test

import (
	"reflect"
	"strings"
	"testing"
	"unsafe"

	"stile/api"
	"stile/parse"
)

// full is a tree with something in every list.
func full(t *testing.T) api.Program {
	t.Helper()
	return program(t, "shared x = 5, y; lock l, m; thread a { local r, s; r = x + -2 * (y - 1); if (r) { lock l { r = swap(x, !r); } } else { while (1) { skip; print r; } } } thread b { print y; }")
}

// each goes through all numbers, texts and lists of a value, with the name of the field that they stand in.
func each(v reflect.Value, field string, do func(field string, v reflect.Value)) {
	switch v.Kind() {
	case reflect.Struct:
		for i := range v.NumField() {
			each(v.Field(i), v.Type().Field(i).Name, do)
		}
	case reflect.Slice:
		do(field, v)
		for i := range v.Len() {
			each(v.Index(i), field, do)
		}
	default:
		do(field, v)
	}
}

// change makes a number or a text another one; a list one longer.
func change(v reflect.Value) {
	switch v.Kind() {
	case reflect.String:
		v.SetString(v.String() + "q")
	case reflect.Int, reflect.Int64:
		v.SetInt(v.Int() + 1)
	case reflect.Uint8:
		v.SetUint(v.Uint() ^ 1)
	case reflect.Slice:
		v.Set(reflect.Append(v, reflect.Zero(v.Type().Elem())))
	}
}

// 3.2, 3.8: Same goes by every field but places, in every list; Copy is Same, and has the places, too.
func TestSame(t *testing.T) {
	p := full(t)
	n := 0
	each(reflect.ValueOf(&p).Elem(), "", func(field string, v reflect.Value) {
		n++
		ahead := parse.Copy(p)
		if !reflect.DeepEqual(ahead, p) || !parse.Same(ahead, p) || !parse.Same(p, p) {
			t.Fatal("a Copy is another one:", ahead)
		}
		old := reflect.New(v.Type()).Elem()
		old.Set(v)
		change(v)
		if got, want := parse.Same(ahead, p), field == "At"; got != want || parse.Same(p, ahead) != want {
			t.Errorf("%s is another: Same is %v", field, got)
		}
		if after := parse.Copy(p); !reflect.DeepEqual(after, p) || reflect.DeepEqual(ahead, p) {
			t.Errorf("%s is another: Copy has not followed", field)
		}
		v.Set(old)
	})
	if n < 150 {
		t.Error("only", n, "fields")
	}
}

// 3.2: the same of expressions.
func TestSameExpr(t *testing.T) {
	s := "!a + -(2 * b) < (c >> 1)"
	e, other := expr(t, s), expr(t, " "+s)
	each(reflect.ValueOf(&e).Elem(), "", func(field string, v reflect.Value) {
		if !parse.SameExpr(e, other) || !parse.SameExpr(other, e) || !parse.SameExpr(e, e) {
			t.Fatal("places alone are others:", e, other)
		}
		old := reflect.New(v.Type()).Elem()
		old.Set(v)
		change(v)
		if got, want := parse.SameExpr(e, other), field == "At"; got != want || parse.SameExpr(other, e) != want {
			t.Errorf("%s is another: SameExpr is %v", field, got)
		}
		v.Set(old)
	})
}

// 3.2: nil and empty lists alike; lists with items left out or changed about are others.
func TestSameLists(t *testing.T) {
	p, q := full(t), full(t)
	each(reflect.ValueOf(&p).Elem(), "", func(_ string, v reflect.Value) {
		if v.Kind() == reflect.Slice && v.Len() == 0 {
			v.Set(reflect.MakeSlice(v.Type(), 0, 1))
		}
	})
	if !parse.Same(p, q) || !parse.Same(q, p) || !parse.Same(parse.Copy(p), q) || !parse.Same(api.Program{}, api.Program{Locks: []api.Decl{}}) {
		t.Error("nil and empty lists are alike")
	}
	q.Shared[0], q.Shared[1] = q.Shared[1], q.Shared[0]
	if parse.Same(p, q) {
		t.Error("in another order")
	}
	q = full(t)
	q.Threads = q.Threads[:1]
	if parse.Same(p, q) || parse.Same(q, p) {
		t.Error("without a thread")
	}
	if parse.Same(api.Program{Shared: p.Shared}, api.Program{Locks: p.Shared}) {
		t.Error("shared variables and locks")
	}
}

// 3.3: how many statements and expressions there are.
func TestSize(t *testing.T) {
	for s, want := range map[string][3]int{
		"":                        {0, 0, 0},
		"shared x; lock l;":       {0, 0, 0},
		"thread a { }":            {0, 0, 1},
		"thread a { } thread b{}": {0, 0, 1},
		"thread a { skip; }":      {1, 0, 1},
		"thread a { local r; r = x + 2 * y; lock l { print r; } }":                                         {3, 6, 2},
		"thread a { x = swap(y, -(1)); }":                                                                  {1, 2, 1},
		"thread a { if (x) { } }":                                                                          {1, 1, 2},
		"thread a { if (x) { } else { } }":                                                                 {1, 1, 2},
		"thread a { if (x) { } else { skip; } }":                                                           {2, 1, 2},
		"thread a { if (x) { } else { while (1) { } } }":                                                   {2, 2, 3},
		"thread a { if (x) { lock l { } } else { skip; } }":                                                {3, 1, 3},
		"thread a { while (x) { } lock l { } }":                                                            {2, 1, 2},
		"thread a { skip; } thread b { lock l { while (!x) { lock m { skip; } } } } thread c { print 1; }": {6, 3, 4},
	} {
		p := program(t, s)
		if n, k := parse.Size(p); n != want[0] || k != want[1] || parse.Deep(p) != want[2] {
			t.Errorf("%q: %d statements, %d expressions, %d deep", s, n, k, parse.Deep(p))
		}
	}
}

// 3.3: of trees made by hand Size counts all that is there, whatever the kinds; the kinds say which blocks there are, to Deep alone.
func TestSizeByHand(t *testing.T) {
	two := []api.Stmt{{Kind: api.StmtSkip}, {Kind: api.StmtPrint, E: []api.Expr{{}, {Kids: []api.Expr{{}}}}}}
	one := []api.Stmt{{E: []api.Expr{{Kind: 99}}}}
	for n := range 256 {
		kind := api.StmtKind(n)
		deep := 1
		if kind == api.StmtIf || kind == api.StmtWhile || kind == api.StmtLock {
			deep = 2
		}
		for _, x := range []struct {
			s    api.Stmt
			n, k int
		}{
			{api.Stmt{}, 1, 0},
			{api.Stmt{E: one[0].E}, 1, 1},
			{api.Stmt{Body: two}, 3, 3},
			{api.Stmt{Else: two}, 3, 3},
			{api.Stmt{Body: one, Else: two}, 4, 4},
			{api.Stmt{Body: two, Else: one, E: two[1].E}, 4, 7},
		} {
			x.s.Kind = kind
			p := api.Program{Threads: []api.Thread{{}, {Body: []api.Stmt{x.s}}}}
			if n, k := parse.Size(p); n != x.n || k != x.k || parse.Deep(p) != deep {
				t.Errorf("%v: %d statements, %d expressions, %d deep", x.s, n, k, parse.Deep(p))
			}
		}
	}
}

// 3.3: a statement without blocks hides from Deep what stands in it, and from Size nothing.
func TestSizeWithoutBlocks(t *testing.T) {
	inner := []api.Stmt{{Kind: api.StmtLock, Body: []api.Stmt{{Kind: api.StmtIf, E: []api.Expr{{}}, Else: []api.Stmt{{Kind: api.StmtSkip}}}}}}
	for _, kind := range []api.StmtKind{api.StmtNone, api.StmtAssign, api.StmtSwap, api.StmtPrint, api.StmtSkip, api.StmtCount, 255} {
		for _, x := range []struct {
			s    api.Stmt
			n, k int
		}{
			{api.Stmt{Kind: kind, Body: inner}, 4, 1},
			{api.Stmt{Kind: kind, Else: inner}, 4, 1},
			{api.Stmt{Kind: kind, Body: inner, Else: inner[0].Body}, 6, 2},
			{api.Stmt{Kind: kind, Body: []api.Stmt{{Else: inner}}}, 5, 1},
		} {
			p := api.Program{Threads: []api.Thread{{Body: []api.Stmt{x.s}}}}
			if n, k := parse.Size(p); n != x.n || k != x.k || parse.Deep(p) != 1 {
				t.Errorf("%v: %d statements, %d expressions, %d deep", x.s, n, k, parse.Deep(p))
			}
		}
	}
}

// 3.4: answers are new memory, and what is handed in stays.
func TestNewMemory(t *testing.T) {
	p, want := full(t), full(t)
	own := parse.Copy(p)
	each(reflect.ValueOf(&own).Elem(), "", func(_ string, v reflect.Value) {
		if v.Kind() != reflect.Slice {
			change(v)
		}
	})
	if !reflect.DeepEqual(p, want) {
		t.Error("a Copy shares memory")
	}
	parse.Size(p)
	parse.Deep(p)
	parse.Same(p, own)
	if !reflect.DeepEqual(p, want) {
		t.Error("what was handed in is another")
	}
	first := full(t)
	each(reflect.ValueOf(&first).Elem(), "", func(_ string, v reflect.Value) {
		if v.Kind() != reflect.Slice {
			change(v)
		}
	})
	if !reflect.DeepEqual(full(t), want) || !reflect.DeepEqual(p, want) {
		t.Error("two answers share memory")
	}
	l := p.Threads[0].Locals
	_ = append(l, api.Decl{Name: "z"})
	_ = append(p.Threads[0].Body, api.Stmt{Name: "z"})
	_ = append(p.Shared, api.Decl{Name: "z"})
	if !reflect.DeepEqual(p, want) {
		t.Error("two lists of an answer share memory")
	}
	b := []byte("thread a { x = y; }")
	s := unsafe.String(&b[0], len(b))
	q := program(t, s)
	e := expr(t, s[15:16])
	clear(b)
	if q.Threads[0].Name != "a" || q.Threads[0].Body[0].Name != "x" || q.Threads[0].Body[0].E[0].Name != "y" || e.Name != "y" {
		t.Error("the text that was handed in is kept:", q, e)
	}
}

// P1: trees made by hand, of any kinds, and as deep as may be.
func TestByHand(t *testing.T) {
	const far = 1 << 16
	e := api.Expr{Kind: 200, Op: 99, Word: -1, Name: strings.Repeat("n", 99)}
	s := api.Stmt{Kind: 77, E: []api.Expr{e, e, e}}
	for n := range far - 2 {
		e = api.Expr{Kind: api.ExprKind(n), Kids: []api.Expr{e}}
		s = api.Stmt{Kind: api.StmtIf, Else: []api.Stmt{s}}
	}
	p := api.Program{Threads: []api.Thread{{Body: []api.Stmt{s, {E: []api.Expr{e}}}}, {}}}
	q := parse.Copy(p)
	if !parse.Same(p, q) || !parse.SameExpr(e, q.Threads[0].Body[1].E[0]) {
		t.Error("a deep Copy is another one")
	}
	if n, k := parse.Size(p); n != far || k != far+2 || parse.Deep(p) != far-1 {
		t.Error(n, k, parse.Deep(p))
	}
	if parse.Same(p, api.Program{}) || parse.SameExpr(e, api.Expr{}) || !parse.SameExpr(api.Expr{}, api.Expr{}) {
		t.Error("of nothing")
	}
	if n, k := parse.Size(api.Program{}); n != 0 || k != 0 || parse.Deep(api.Program{}) != 0 || !reflect.DeepEqual(parse.Copy(api.Program{}), api.Program{}) {
		t.Error("of nothing:", n, k)
	}
}
