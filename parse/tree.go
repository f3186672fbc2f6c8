package parse

import (
	"slices"
	"strings"

	"stile/api"
)

// Same tells whether programs are one, but for places; SameExpr, whether expressions are; Copy is a program of its own memory.
func Same(a, b api.Program) bool {
	return slices.EqualFunc(a.Shared, b.Shared, sameDecl) &&
		slices.EqualFunc(a.Locks, b.Locks, sameDecl) &&
		slices.EqualFunc(a.Threads, b.Threads, sameThread)
}

func SameExpr(a, b api.Expr) bool {
	return a.Kind == b.Kind && a.Op == b.Op && a.Word == b.Word && a.Name == b.Name &&
		slices.EqualFunc(a.Kids, b.Kids, SameExpr)
}

func sameDecl(a, b api.Decl) bool { return a.Name == b.Name && a.Word == b.Word }

func sameThread(a, b api.Thread) bool {
	return a.Name == b.Name && slices.EqualFunc(a.Locals, b.Locals, sameDecl) &&
		slices.EqualFunc(a.Body, b.Body, sameStmt)
}

func sameStmt(a, b api.Stmt) bool {
	return a.Kind == b.Kind && a.Name == b.Name && a.Other == b.Other &&
		slices.EqualFunc(a.E, b.E, SameExpr) &&
		slices.EqualFunc(a.Body, b.Body, sameStmt) &&
		slices.EqualFunc(a.Else, b.Else, sameStmt)
}

func Copy(p api.Program) api.Program {
	return api.Program{
		Shared:  each(p.Shared, copyDecl),
		Locks:   each(p.Locks, copyDecl),
		Threads: each(p.Threads, copyThread),
	}
}

// each is a list of its own with a copy of each item; none of none.
func each[T any](l []T, copied func(x T) T) []T {
	if l == nil {
		return nil
	}
	own := make([]T, len(l))
	for i, x := range l {
		own[i] = copied(x)
	}
	return own
}

func copyDecl(d api.Decl) api.Decl {
	d.Name = strings.Clone(d.Name)
	return d
}

func copyThread(t api.Thread) api.Thread {
	t.Name = strings.Clone(t.Name)
	t.Locals = each(t.Locals, copyDecl)
	t.Body = each(t.Body, copyStmt)
	return t
}

func copyStmt(s api.Stmt) api.Stmt {
	s.Name, s.Other = strings.Clone(s.Name), strings.Clone(s.Other)
	s.E = each(s.E, copyExpr)
	s.Body, s.Else = each(s.Body, copyStmt), each(s.Else, copyStmt)
	return s
}

func copyExpr(e api.Expr) api.Expr {
	e.Name = strings.Clone(e.Name)
	e.Kids = each(e.Kids, copyExpr)
	return e
}

// Size is how many statements and expressions a program has; Deep, how deep its blocks lie within one another.
func Size(p api.Program) (int, int) {
	statements, expressions := 0, 0
	for _, t := range p.Threads {
		n, k := size(t.Body)
		statements += n
		expressions += k
	}
	return statements, expressions
}

// size counts what stands in a statement's lists whatever its kind, as parts does with Kids: which lists are blocks matters to Deep alone.
func size(l []api.Stmt) (int, int) {
	statements, expressions := len(l), 0
	for _, s := range l {
		expressions += parts(s.E)
		for _, b := range [2][]api.Stmt{s.Body, s.Else} {
			n, k := size(b)
			statements += n
			expressions += k
		}
	}
	return statements, expressions
}

func parts(l []api.Expr) int {
	n := len(l)
	for _, e := range l {
		n += parts(e.Kids)
	}
	return n
}

func Deep(p api.Program) int {
	most := 0
	for _, t := range p.Threads {
		most = max(most, deepest(t.Body))
	}
	return most
}

// deepest is how deep a block goes, itself counted.
func deepest(l []api.Stmt) int {
	most := 0
	for _, s := range l {
		for _, b := range blocks(s) {
			most = max(most, deepest(b))
		}
	}
	return most + 1
}

// blocks are the blocks that a statement has: a kind that has none may have the lists all the same, in a tree made by hand.
func blocks(s api.Stmt) [][]api.Stmt {
	switch s.Kind {
	case api.StmtIf, api.StmtWhile, api.StmtLock:
		if len(s.Else) > 0 {
			return [][]api.Stmt{s.Body, s.Else}
		}
		return [][]api.Stmt{s.Body}
	}
	return nil
}
