package check

import "stile/api"

// eachDeclared hands on each name of a Decl or a Thread, where it stands.
func eachDeclared(p api.Program, do func(at *string)) {
	eachDecl(p.Shared, do)
	eachDecl(p.Locks, do)
	for i := range p.Threads {
		do(&p.Threads[i].Name)
		eachDecl(p.Threads[i].Locals, do)
	}
}

func eachDecl(l []api.Decl, do func(at *string)) {
	for i := range l {
		do(&l[i].Name)
	}
}

// touch is what is done with the variable that a name says: neither, if it says a lock.
type touch struct{ reads, writes bool }

// eachName hands on each name that stands in statements that are right, where it stands.
func eachName(l []api.Stmt, do func(at *string, by touch)) {
	for i := range l {
		s := &l[i]
		switch s.Kind {
		case api.StmtAssign:
			do(&s.Name, touch{writes: true})
		case api.StmtSwap:
			do(&s.Name, touch{writes: true})
			do(&s.Other, touch{reads: true, writes: true})
		case api.StmtLock:
			do(&s.Name, touch{})
		}
		eachRead(s.E, do)
		eachName(s.Body, do)
		eachName(s.Else, do)
	}
}

func eachRead(l []api.Expr, do func(at *string, by touch)) {
	for i := range l {
		e := &l[i]
		if e.Kind == api.ExprName {
			do(&e.Name, touch{reads: true})
		}
		eachRead(e.Kids, do)
	}
}
