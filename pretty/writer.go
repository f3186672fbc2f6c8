package pretty

import (
	"strings"

	"stile/api"
	"stile/words"
)

// writer puts a text together, of trees that are right; it gives up as soon as that is too long. Its table has for each kind of statements the method that writes it.
type writer struct {
	text       strings.Builder
	deep       int
	statements [api.StmtCount]func(s api.Stmt)
}

func newWriter() *writer {
	w := &writer{}
	w.statements = [api.StmtCount]func(s api.Stmt){
		api.StmtAssign: w.assign,
		api.StmtSwap:   w.swap,
		api.StmtIf:     w.choice,
		api.StmtWhile:  w.loop,
		api.StmtLock:   w.guard,
		api.StmtPrint:  w.print,
		api.StmtSkip:   w.skip,
	}
	return w
}

func program(p api.Program) string {
	w := newWriter()
	w.list("shared", p.Shared)
	w.list("lock", p.Locks)
	for _, t := range p.Threads {
		w.line("thread ", t.Name, " {")
		w.deep++
		w.list("local", t.Locals)
		w.deep--
		w.block(t.Body)
		w.line("}")
	}
	return w.text.String()
}

func expression(e api.Expr) string {
	w := &writer{}
	w.expr(e)
	return w.text.String()
}

func (w *writer) put(parts ...string) {
	for _, s := range parts {
		if w.text.Len()+len(s) > api.MaxText {
			panic(api.ErrLong)
		}
		w.text.WriteString(s)
	}
}

func (w *writer) line(parts ...string) {
	w.put(strings.Repeat("  ", w.deep))
	w.put(parts...)
	w.put("\n")
}

// list writes a line of what is declared, if there is something.
func (w *writer) list(word string, l []api.Decl) {
	if len(l) == 0 {
		return
	}
	parts := []string{word}
	sep := " "
	for _, d := range l {
		parts = append(parts, sep, d.Name)
		if d.Word != 0 {
			parts = append(parts, " = ", words.Print(d.Word))
		}
		sep = ", "
	}
	w.line(append(parts, ";")...)
}

func (w *writer) block(l []api.Stmt) {
	w.deep++
	for _, s := range l {
		w.statements[s.Kind](s)
	}
	w.deep--
}

func (w *writer) assign(s api.Stmt) { w.line(s.Name, " = ", expression(s.E[0]), ";") }
func (w *writer) print(s api.Stmt)  { w.line("print ", expression(s.E[0]), ";") }
func (w *writer) skip(api.Stmt)     { w.line("skip;") }

func (w *writer) swap(s api.Stmt) {
	w.line(s.Name, " = swap(", s.Other, ", ", expression(s.E[0]), ");")
}

func (w *writer) choice(s api.Stmt) {
	w.line("if (", expression(s.E[0]), ") {")
	w.block(s.Body)
	if len(s.Else) > 0 {
		w.line("} else {")
		w.block(s.Else)
	}
	w.line("}")
}

func (w *writer) loop(s api.Stmt) {
	w.line("while (", expression(s.E[0]), ") {")
	w.block(s.Body)
	w.line("}")
}

func (w *writer) guard(s api.Stmt) {
	w.line("lock ", s.Name, " {")
	w.block(s.Body)
	w.line("}")
}

func (w *writer) expr(e api.Expr) {
	switch e.Kind {
	case api.ExprNumber:
		w.put(words.Print(e.Word))
	case api.ExprName:
		w.put(e.Name)
	case api.ExprUnary:
		w.put(words.Show(e.Op))
		w.kid(e.Kids[0], wrapsOne(e.Kids[0]))
	case api.ExprBinary:
		w.kid(e.Kids[0], wrapsLeft(e.Op, e.Kids[0]))
		w.put(" ", words.Show(e.Op), " ")
		w.kid(e.Kids[1], wrapsRight(e.Op, e.Kids[1]))
	}
}

func (w *writer) kid(e api.Expr, wrapped bool) {
	if !wrapped {
		w.expr(e)
		return
	}
	w.put("(")
	w.expr(e)
	w.put(")")
}
