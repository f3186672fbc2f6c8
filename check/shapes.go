package check

import "stile/api"

// shape is what a statement of a kind uses; all else of it must be zero.
type shape struct {
	name, other bool
	values      int
	body, rest  bool
}

var shapes = [api.StmtCount]shape{
	api.StmtAssign: {name: true, values: 1},
	api.StmtSwap:   {name: true, other: true, values: 1},
	api.StmtIf:     {values: 1, body: true, rest: true},
	api.StmtWhile:  {values: 1, body: true},
	api.StmtLock:   {name: true, body: true},
	api.StmtPrint:  {values: 1},
	api.StmtSkip:   {},
}

func fits(s api.Stmt) bool {
	if s.Kind == api.StmtNone || s.Kind >= api.StmtCount {
		return false
	}
	uses := shapes[s.Kind]
	return (uses.name || s.Name == "") && (uses.other || s.Other == "") &&
		len(s.E) == uses.values &&
		(uses.body || len(s.Body) == 0) && (uses.rest || len(s.Else) == 0)
}

func fitsExpr(e api.Expr) bool {
	switch e.Kind {
	case api.ExprNumber:
		return e.Word >= 0 && e.Op == api.OpNone && e.Name == "" && len(e.Kids) == 0
	case api.ExprName:
		return e.Word == 0 && e.Op == api.OpNone && len(e.Kids) == 0
	case api.ExprUnary:
		return e.Word == 0 && e.Name == "" && len(e.Kids) == 1 && isOfOne(e.Op)
	case api.ExprBinary:
		return e.Word == 0 && e.Name == "" && len(e.Kids) == 2 && isOfTwo(e.Op)
	}
	return false
}

func isOfOne(op api.Op) bool { return op == api.OpMinus || op == api.OpNot }
func isOfTwo(op api.Op) bool { return op >= api.OpAdd && op <= api.OpLeast }
