package pretty

import "stile/api"

// eachPart goes through a tree, whatever its kinds: do is handed the place and the names of each part, and may set them.
func eachPart(p api.Program, do func(at *int, names ...*string)) {
	eachDecl(p.Shared, do)
	eachDecl(p.Locks, do)
	for i := range p.Threads {
		t := &p.Threads[i]
		do(&t.At, &t.Name)
		eachDecl(t.Locals, do)
		eachStmt(t.Body, do)
	}
}

func eachDecl(l []api.Decl, do func(at *int, names ...*string)) {
	for i := range l {
		do(&l[i].At, &l[i].Name)
	}
}

func eachStmt(l []api.Stmt, do func(at *int, names ...*string)) {
	for i := range l {
		s := &l[i]
		do(&s.At, &s.Name, &s.Other)
		eachExpr(s.E, do)
		eachStmt(s.Body, do)
		eachStmt(s.Else, do)
	}
}

func eachExpr(l []api.Expr, do func(at *int, names ...*string)) {
	for i := range l {
		e := &l[i]
		if e.Kind == api.ExprName {
			do(&e.At, &e.Name)
		} else {
			do(&e.At)
		}
		eachExpr(e.Kids, do)
	}
}
