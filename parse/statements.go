package parse

import "stile/api"

// statement reads a statement of a block that lies so deep.
func (x *reader) statement(deep int) api.Stmt {
	first := x.next()
	read := x.statements[first.Text]
	if first.Kind == api.TokenName {
		read = x.change
	}
	if read == nil {
		refuse(first, ruleGrammar)
	}
	x.at++
	s := read(first, deep)
	s.At = first.At
	return s
}

// change reads an assignment or a swap.
func (x *reader) change(first api.Token, _ int) api.Stmt {
	s := api.Stmt{Kind: api.StmtAssign, Name: first.Text}
	x.take("=")
	if !x.pass("swap") {
		s.E = x.value()
		x.take(";")
		return s
	}
	s.Kind = api.StmtSwap
	x.take("(")
	s.Other = x.takeKind(api.TokenName).Text
	x.take(",")
	s.E = x.value()
	x.take(")")
	x.take(";")
	return s
}

func (x *reader) choice(_ api.Token, deep int) api.Stmt {
	s := api.Stmt{Kind: api.StmtIf}
	s.E = x.condition()
	s.Body = x.block(deep + 1)
	if x.pass("else") {
		s.Else = x.block(deep + 1)
	}
	return s
}

func (x *reader) loop(_ api.Token, deep int) api.Stmt {
	s := api.Stmt{Kind: api.StmtWhile}
	s.E = x.condition()
	s.Body = x.block(deep + 1)
	return s
}

func (x *reader) guard(_ api.Token, deep int) api.Stmt {
	s := api.Stmt{Kind: api.StmtLock}
	s.Name = x.takeKind(api.TokenName).Text
	s.Body = x.block(deep + 1)
	return s
}

func (x *reader) print(_ api.Token, _ int) api.Stmt {
	s := api.Stmt{Kind: api.StmtPrint}
	s.E = x.value()
	x.take(";")
	return s
}

func (x *reader) skip(_ api.Token, _ int) api.Stmt {
	x.take(";")
	return api.Stmt{Kind: api.StmtSkip}
}

// condition reads an expression in parentheses that belong to the statement: it lies at 0 within them.
func (x *reader) condition() []api.Expr {
	x.take("(")
	e := x.value()
	x.take(")")
	return e
}

func (x *reader) value() []api.Expr { return []api.Expr{x.expression()} }
