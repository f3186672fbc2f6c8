package pretty

import (
	"math"

	"stile/api"
	"stile/lexer"
	"stile/words"
)

// shape is what a statement of a kind has; all else of it must be zero.
type shape struct {
	name, other bool
	values      int
	body, rest  bool
}

var shapes = [api.StmtCount]shape{
	api.StmtAssign: {name: true, values: 1},
	api.StmtSwap:   {name: true, other: true, values: 1},
	api.StmtIf:     {values: 1, body: true, rest: true},
	api.StmtWhile:  {values: 1, body: true},
	api.StmtLock:   {name: true, body: true},
	api.StmtPrint:  {values: 1},
	api.StmtSkip:   {},
}

// need gives up, if a tree is not right.
func need(right bool) {
	if !right {
		panic(api.ErrTree)
	}
}

func needProgram(p api.Program) {
	for _, d := range p.Shared {
		need(lexer.Name(d.Name) && d.Word > math.MinInt64)
	}
	needBare(p.Locks)
	for _, t := range p.Threads {
		need(lexer.Name(t.Name))
		needBare(t.Locals)
		needBlock(t.Body, 1)
	}
}

// needBare is of what is declared without a word.
func needBare(l []api.Decl) {
	for _, d := range l {
		need(lexer.Name(d.Name) && d.Word == 0)
	}
}

func needBlock(l []api.Stmt, deep int) {
	need(deep <= api.MaxDeep)
	for _, s := range l {
		needStmt(s, deep)
	}
}

func needStmt(s api.Stmt, deep int) {
	need(s.Kind > api.StmtNone && s.Kind < api.StmtCount)
	has := shapes[s.Kind]
	needName(s.Name, has.name)
	needName(s.Other, has.other)
	need(len(s.E) == has.values)
	need(has.body || len(s.Body) == 0)
	need(has.rest || len(s.Else) == 0)
	for _, e := range s.E {
		needExpr(e, 0)
	}
	if has.body {
		needBlock(s.Body, deep+1)
	}
	if len(s.Else) > 0 {
		needBlock(s.Else, deep+1)
	}
}

func needName(name string, has bool) { need(has && lexer.Name(name) || !has && name == "") }

func needExpr(e api.Expr, deep int) {
	need(deep <= api.MaxDeep)
	need(e.Kind == api.ExprNumber && e.Word >= 0 || e.Word == 0)
	needName(e.Name, e.Kind == api.ExprName)
	switch e.Kind {
	case api.ExprNumber, api.ExprName:
		need(e.Op == api.OpNone && len(e.Kids) == 0)
	case api.ExprUnary:
		need(isOfOne(e.Op) && len(e.Kids) == 1)
		needExpr(e.Kids[0], deep+1+round(wrapsOne(e.Kids[0])))
	case api.ExprBinary:
		need(words.Two(e.Op) && len(e.Kids) == 2)
		needExpr(e.Kids[0], deep+round(wrapsLeft(e.Op, e.Kids[0])))
		needExpr(e.Kids[1], deep+round(wrapsRight(e.Op, e.Kids[1])))
	default:
		need(false)
	}
}

func isOfOne(op api.Op) bool {
	_, why := words.One(op, 0)
	return why == api.OK
}

// round is by how much deeper a part lies for its parentheses.
func round(wrapped bool) int {
	if wrapped {
		return 1
	}
	return 0
}

// wrapsOne, wrapsLeft and wrapsRight tell whether a kid stands in parentheses: of an operator of one, on the left and on the right of one of two.
func wrapsOne(kid api.Expr) bool { return kid.Kind == api.ExprBinary }

func wrapsLeft(op api.Op, kid api.Expr) bool {
	return kid.Kind == api.ExprBinary && words.Level(kid.Op) < words.Level(op)
}

func wrapsRight(op api.Op, kid api.Expr) bool {
	return kid.Kind == api.ExprBinary && words.Level(kid.Op) <= words.Level(op)
}
