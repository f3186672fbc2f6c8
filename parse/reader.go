package parse

import "stile/api"

// reader takes tokens one by one: at is the number of the one that comes next. Of what a word or a sign may begin its tables have the method that reads it.
type reader struct {
	tokens     []api.Token
	length     int
	at         int
	decls      map[string]func(p *api.Program)
	statements map[string]func(first api.Token, deep int) api.Stmt
	operands   map[string]func(first api.Token, deep int) api.Expr
}

func newReader(tokens []api.Token, length int) *reader {
	x := &reader{tokens: tokens, length: length}
	x.decls = map[string]func(p *api.Program){
		"shared": x.shared,
		"lock":   x.locks,
	}
	x.statements = map[string]func(first api.Token, deep int) api.Stmt{
		"if":    x.choice,
		"while": x.loop,
		"lock":  x.guard,
		"print": x.print,
		"skip":  x.skip,
	}
	x.operands = map[string]func(first api.Token, deep int) api.Expr{
		"-": x.unary(api.OpMinus),
		"!": x.unary(api.OpNot),
		"(": x.inner,
	}
	return x
}

// next is the token that comes next; behind the last one an empty one at the text's end.
func (x *reader) next() api.Token {
	if x.at < len(x.tokens) {
		return x.tokens[x.at]
	}
	return api.Token{At: x.length}
}

func refuse(t api.Token, rule int) { panic(api.Fault{At: t.At, Rule: rule}) }

// pass goes over a word or a sign, if it comes next.
func (x *reader) pass(text string) bool {
	if x.next().Text != text {
		return false
	}
	x.at++
	return true
}

// take goes over a word or a sign, which must come next.
func (x *reader) take(text string) {
	if !x.pass(text) {
		refuse(x.next(), ruleGrammar)
	}
}

// takeKind goes over a token of a kind, which must come next.
func (x *reader) takeKind(kind api.TokenKind) api.Token {
	t := x.next()
	if t.Kind != kind {
		refuse(t, ruleGrammar)
	}
	x.at++
	return t
}

func (x *reader) end() {
	if x.at < len(x.tokens) {
		refuse(x.next(), ruleGrammar)
	}
}

func (x *reader) program() api.Program {
	var p api.Program
	for read := x.decls[x.next().Text]; read != nil; read = x.decls[x.next().Text] {
		x.at++
		read(&p)
	}
	for x.pass("thread") {
		p.Threads = append(p.Threads, x.thread())
	}
	return p
}

func (x *reader) shared(p *api.Program) { p.Shared = append(p.Shared, x.list(x.first)...) }
func (x *reader) locks(p *api.Program)  { p.Locks = append(p.Locks, x.list(x.name)...) }

// list reads one or more, with commas between and a semicolon behind.
func (x *reader) list(read func() api.Decl) []api.Decl {
	l := []api.Decl{read()}
	for x.pass(",") {
		l = append(l, read())
	}
	x.take(";")
	return l
}

func (x *reader) name() api.Decl {
	t := x.takeKind(api.TokenName)
	return api.Decl{Name: t.Text, At: t.At}
}

// first reads a name, perhaps with the word that it has at first.
func (x *reader) first() api.Decl {
	d := x.name()
	if !x.pass("=") {
		return d
	}
	below := x.pass("-")
	d.Word = x.takeKind(api.TokenNumber).Word
	if below {
		d.Word = -d.Word
	}
	return d
}

func (x *reader) thread() api.Thread {
	d := x.name()
	t := api.Thread{Name: d.Name, At: d.At}
	x.open(1)
	for x.pass("local") {
		t.Locals = append(t.Locals, x.list(x.name)...)
	}
	t.Body = x.rest(1)
	return t
}

func (x *reader) block(deep int) []api.Stmt {
	x.open(deep)
	return x.rest(deep)
}

func (x *reader) open(deep int) {
	brace := x.next()
	x.take("{")
	if deep > api.MaxDeep {
		refuse(brace, ruleDeep)
	}
}

// rest reads the statements of a block, with the brace behind them.
func (x *reader) rest(deep int) []api.Stmt {
	var l []api.Stmt
	for !x.pass("}") {
		l = append(l, x.statement(deep))
	}
	return l
}
