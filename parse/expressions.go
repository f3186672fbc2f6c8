package parse

import (
	"stile/api"
	"stile/words"
)

func (x *reader) expression() api.Expr { return x.binary(1, 0) }

// binary reads what operators of at least this level bind. Of one level the left one is taken first: on its right stands only what binds more strongly.
func (x *reader) binary(level, deep int) api.Expr {
	left := x.operand(deep)
	for {
		t := x.next()
		op, is := words.Find(t.Text)
		if !is || words.Level(op) < level {
			return left
		}
		x.at++
		right := x.binary(words.Level(op)+1, deep)
		left = api.Expr{Kind: api.ExprBinary, Op: op, Kids: []api.Expr{left, right}, At: t.At}
	}
}

func (x *reader) operand(deep int) api.Expr {
	t := x.next()
	read := x.operands[t.Text]
	switch t.Kind {
	case api.TokenNumber:
		read = number
	case api.TokenName:
		read = variable
	}
	if read == nil {
		refuse(t, ruleGrammar)
	}
	x.at++
	return read(t, deep)
}

func number(t api.Token, _ int) api.Expr {
	return api.Expr{Kind: api.ExprNumber, Word: t.Word, At: t.At}
}

func variable(t api.Token, _ int) api.Expr {
	return api.Expr{Kind: api.ExprName, Name: t.Text, At: t.At}
}

func (x *reader) unary(op api.Op) func(first api.Token, deep int) api.Expr {
	return func(first api.Token, deep int) api.Expr {
		kid := x.operand(deeper(first, deep))
		return api.Expr{Kind: api.ExprUnary, Op: op, Kids: []api.Expr{kid}, At: first.At}
	}
}

func (x *reader) inner(first api.Token, deep int) api.Expr {
	e := x.binary(1, deeper(first, deep))
	x.take(")")
	return e
}

// deeper is how deep that lies which stands behind an operator of one, or an open parenthesis.
func deeper(first api.Token, deep int) int {
	if deep == api.MaxDeep {
		refuse(first, ruleDeep)
	}
	return deep + 1
}
