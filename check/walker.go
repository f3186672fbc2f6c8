package check

import "stile/api"

// walker goes through a tree, and asks the rules of each thing.
type walker struct {
	top, locals *scope
	declRules   []rule[declared]
	partRules   []rule[part]
}

// declared is a Decl or a Thread: its number in its scope, and in its list, which may have so many at most.
type declared struct {
	name                  string
	word                  int64
	as                    role
	inScope, inList, most int
}

// part is a statement or an expression: whether it has just what its kind uses, which names it uses, how deep it lies.
type part struct {
	fits bool
	uses []use
	deep int
}

// use is a name that stands for something, and as what it must be declared.
type use struct {
	name string
	as   role
}

func newWalker(p api.Program) *walker {
	x := &walker{top: newScope(), locals: newScope()}
	// All names at the top are declared ahead of the walk: a body is asked of threads that stand behind it, too.
	x.top.addAll(p.Shared, asShared)
	x.top.addAll(p.Locks, asLock)
	for _, t := range p.Threads {
		x.top.add(t.Name, asThread)
	}
	x.declRules = x.makeDeclRules()
	x.partRules = x.makePartRules()
	return x
}

func (x *walker) program(p api.Program) {
	x.decls(p.Shared, declared{as: asShared, most: api.MaxShared})
	x.decls(p.Locks, declared{as: asLock, inScope: len(p.Shared), most: api.MaxLocks})
	ahead := len(p.Shared) + len(p.Locks)
	for i, t := range p.Threads {
		ask(x.declRules, t.At, declared{name: t.Name, as: asThread, inScope: ahead + i, inList: i, most: api.MaxThreads})
		x.locals = newScope()
		x.locals.addAll(t.Locals, asLocal)
		x.decls(t.Locals, declared{as: asLocal, most: api.MaxLocals})
		x.statements(t.Body, 1)
	}
}

// decls goes through a list: first is its first thing, but for the name and the word.
func (x *walker) decls(l []api.Decl, first declared) {
	for i, d := range l {
		thing := first
		thing.name, thing.word = d.Name, d.Word
		thing.inScope += i
		thing.inList += i
		ask(x.declRules, d.At, thing)
	}
}

func (x *walker) statements(l []api.Stmt, deep int) {
	for _, s := range l {
		ask(x.partRules, s.At, part{fits: fits(s), uses: usesOf(s), deep: deep})
		x.expressions(s.E, 1)
		x.statements(s.Body, deep+1)
		x.statements(s.Else, deep+1)
	}
}

func (x *walker) expressions(l []api.Expr, deep int) {
	for _, e := range l {
		ask(x.partRules, e.At, part{fits: fitsExpr(e), uses: usesOfExpr(e), deep: deep})
		x.expressions(e.Kids, deep+1)
	}
}

func usesOf(s api.Stmt) []use {
	switch s.Kind {
	case api.StmtAssign:
		return []use{{s.Name, asVariable}}
	case api.StmtSwap:
		return []use{{s.Name, asVariable}, {s.Other, asShared}}
	case api.StmtLock:
		return []use{{s.Name, asLock}}
	}
	return nil
}

func usesOfExpr(e api.Expr) []use {
	if e.Kind == api.ExprName {
		return []use{{e.Name, asVariable}}
	}
	return nil
}
