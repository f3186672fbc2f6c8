package parse_test

import (
	"math/rand/v2"
	"reflect"
	"slices"
	"strings"
	"testing"

	"stile/api"
	"stile/lexer"
	"stile/parse"
	"stile/words"
)

// rules is chapter 3's grammar; what is no key of it is a token, or a kind of tokens.
func rules() map[string][]string {
	return map[string][]string{
		"Program": {"Decls Threads"},
		"Decls":   {"", "Decl Decls"},
		"Threads": {"", "Thread Threads"},
		"Decl":    {"shared Shared Shareds ;", "lock NAME Names ;"},
		"Shareds": {"", ", Shared Shareds"},
		"Shared":  {"NAME", "NAME = NUMBER", "NAME = - NUMBER"},
		"Names":   {"", ", NAME Names"},
		"Thread":  {"thread NAME { Locals Stmts }"},
		"Locals":  {"", "local NAME Names ; Locals"},
		"Stmts":   {"", "Stmt Stmts"},
		"Stmt":    {"NAME = swap ( NAME , Expr ) ;", "NAME = Expr ;", "if ( Expr ) Block", "if ( Expr ) Block else Block", "while ( Expr ) Block", "lock NAME Block", "print Expr ;", "skip ;"},
		"Block":   {"{ Stmts }"},
		"Expr":    {"Unary", "Expr TWO Unary"},
		"Unary":   {"- Unary", "! Unary", "NUMBER", "NAME", "( Expr )"},
	}
}

func fits(symbol string, t api.Token) bool {
	switch symbol {
	case "NAME":
		return t.Kind == api.TokenName
	case "NUMBER":
		return t.Kind == api.TokenNumber
	case "TWO":
		_, is := words.Find(t.Text)
		return is
	}
	return t.Text == symbol && t.Kind != api.TokenName
}

// item is how far a rule's right side has been read, and from which token on.
type item struct {
	left, right string
	dot, from   int
}

func (x item) symbol() string {
	if f := strings.Fields(x.right); x.dot < len(f) {
		return f[x.dot]
	}
	return ""
}

func (x item) on() item {
	x.dot++
	return x
}

// stops is the number of the first token with which no text of the grammar goes on (that of the tokens, if it only ends too early), or -1: by Earley's sets of items.
func stops(start string, l []api.Token) int {
	grammar := rules()
	sets := []map[item]bool{{}}
	for _, right := range grammar[start] {
		sets[0][item{left: start, right: right}] = true
	}
	for at := range len(l) + 1 {
		var work []item
		for x := range sets[at] {
			work = append(work, x)
		}
		add := func(x item) {
			if !sets[at][x] {
				sets[at][x] = true
				work = append(work, x)
			}
		}
		done := map[string]bool{} // what has been read from at to at: nothing
		for len(work) > 0 {
			x := work[0]
			work = work[1:]
			s := x.symbol()
			if s == "" {
				if x.from == at {
					done[x.left] = true
				}
				for y := range sets[x.from] {
					if y.symbol() == x.left {
						add(y.on())
					}
				}
			}
			for _, right := range grammar[s] {
				add(item{left: s, right: right, from: at})
			}
			if done[s] {
				add(x.on())
			}
		}
		if at == len(l) {
			for x := range sets[at] {
				if x.left == start && x.from == 0 && x.symbol() == "" {
					return -1
				}
			}
			return at
		}
		next := map[item]bool{}
		for x := range sets[at] {
			if s := x.symbol(); s != "" && grammar[s] == nil && fits(s, l[at]) {
				next[x.on()] = true
			}
		}
		if len(next) == 0 {
			return at
		}
		sets = append(sets, next)
	}
	return -1
}

// deepAt is the number of the first token that lies too deep, or -1: told by counting braces, parentheses and signs.
func deepAt(l []api.Token) int {
	braces, base, now := 0, 0, 0
	var bases []int
	var last api.Token
	for i, t := range l {
		behind := last.Kind == api.TokenName || last.Kind == api.TokenNumber || last.Text == ")"
		switch {
		case t.Text == "{":
			braces++
		case t.Text == "}":
			braces--
		case t.Text == "!" || t.Text == "-" && !behind:
			now++
		case t.Text == "(" && slices.Contains([]string{"if", "while", "swap"}, last.Text):
			bases = append(bases, base)
			base, now = 0, 0
		case t.Text == "(":
			now++
			bases = append(bases, base)
			base = now
		case t.Text == ")":
			base = bases[len(bases)-1]
			bases = bases[:len(bases)-1]
			now = base
		case t.Kind == api.TokenName || t.Kind == api.TokenNumber:
			now = base
		}
		if braces > api.MaxDeep || now > api.MaxDeep {
			return i
		}
		last = t
	}
	return -1
}

// faultOf is the fault that a text has by the grammar, a Program's or an Expr's.
func faultOf(start, s string) api.Fault {
	l, why, f := lexer.Scan(s)
	if why != api.OK {
		return api.Fault{At: f.At, Rule: 1}
	}
	ends := append(l, api.Token{At: len(s)})
	stop := stops(start, l)
	read := l
	if stop >= 0 {
		read = l[:stop]
	}
	if deep := deepAt(read); deep >= 0 {
		return api.Fault{At: l[deep].At, Rule: 3}
	}
	if stop >= 0 {
		return api.Fault{At: ends[stop].At, Rule: 2}
	}
	return api.Fault{}
}

// grown is a text of a symbol, by chance; the wider, the more.
func grown(r *rand.Rand, symbol string, wide int) string {
	rights := rules()[symbol]
	if rights == nil {
		some := map[string][]string{
			"NAME":   {"x", "y", "a", "r9", "_"},
			"NUMBER": {"0", "1", "42", "9223372036854775807"},
			"TWO":    {"+", "-", "*", "/", "%", "&", "|", "^", "==", "!=", "<", "<=", ">", ">=", "<<", ">>"},
		}[symbol]
		if some == nil {
			return symbol + []string{" ", " ", "\n", "  // r\n"}[r.IntN(4)]
		}
		return some[r.IntN(len(some))] + " "
	}
	right := rights[r.IntN(len(rights))]
	if wide <= 0 { // the shortest way out
		right = map[string]string{"Stmt": "skip ;", "Expr": "Unary", "Unary": "NAME", "Shared": "NAME", "Block": "{ Stmts }", "Thread": "thread NAME { Locals Stmts }"}[symbol]
	}
	s := ""
	for _, x := range strings.Fields(right) {
		s += grown(r, x, wide-1)
	}
	return s
}

// spoilt is a text with a token left out, put in, doubled or changed, or cut off.
func spoilt(r *rand.Rand, s string) string {
	l, _, _ := lexer.Scan(s)
	var texts []string
	for _, t := range l {
		texts = append(texts, t.Text)
	}
	all := strings.Fields("shared lock thread local if else while print skip swap x 7 ( ) { } , ; = + - * ! == < $")
	other := all[r.IntN(len(all))]
	if len(texts) == 0 {
		return other
	}
	at := r.IntN(len(texts))
	switch r.IntN(5) {
	case 0:
		texts = slices.Delete(texts, at, at+1)
	case 1:
		texts = slices.Insert(texts, at, other)
	case 2:
		texts = slices.Insert(texts, at, texts[at])
	case 3:
		texts[at] = other
	case 4:
		texts = texts[:at]
	}
	return strings.Join(texts, []string{" ", "\n"}[r.IntN(2)])
}

// 3.1: whether a text is one of the grammar, and where it is not, held against the grammar itself.
func TestAgainstGrammar(t *testing.T) {
	r := rand.New(rand.NewPCG(3, 1))
	right, wrong := 0, 0
	for n := range 6000 {
		start := []string{"Program", "Expr", "Thread"}[n%3]
		s := grown(r, start, 4+r.IntN(9))
		for range r.IntN(3) {
			s = spoilt(r, s)
		}
		if len(s) > 3000 {
			continue
		}
		if start == "Thread" {
			start = "Program"
		}
		var why api.Errno
		var got api.Fault
		if start == "Program" {
			_, why, got = parse.Parse(s)
		} else {
			_, why, got = parse.Expr(s)
		}
		want := faultOf(start, s)
		if got != want || (why == api.OK) != (want.Rule == 0) || why != api.OK && why != api.ErrParse {
			t.Fatalf("%s %q: error %d, %v, not %v", start, s, why, got, want)
		}
		if want.Rule == 0 {
			right++
		} else {
			wrong++
		}
	}
	if right < 1500 || wrong < 1500 {
		t.Error("only", right, "right texts and", wrong, "wrong ones")
	}
}

// 3.1: the same of texts that lie about as deep as may be.
func TestAgainstGrammarDeep(t *testing.T) {
	r := rand.New(rand.NewPCG(3, 2))
	seen := map[int]int{}
	for range 2000 {
		s, shut := "", ""
		for range 62 + r.IntN(16) {
			switch r.IntN(9) {
			case 0:
				s += "-"
			case 1:
				s += "! "
			case 2:
				s += "1 - ("
				shut = ")" + shut
			case 3:
				s += "(-x) * "
			case 4:
				s += "(1 <"
				shut = " )+y" + shut
			default:
				s += "("
				shut = ")" + shut
			}
		}
		s += "1" + shut
		want := faultOf("Expr", s)
		_, _, got := parse.Expr(s)
		if got != want {
			t.Fatalf("Expr(%q): %v, not %v", s, got, want)
		}
		seen[got.Rule]++
	}
	if seen[0] < 200 || seen[3] < 200 {
		t.Error("of each rule:", seen)
	}
}

// split is the tree of an expression's tokens: at the top stands the last operator of two of the least level outside of parentheses.
func split(l []api.Token) api.Expr {
	top, deep := -1, 0
	for i, t := range l {
		switch {
		case t.Text == "(":
			deep++
		case t.Text == ")":
			deep--
		}
		if i == 0 || deep > 0 || l[i-1].Text != ")" && l[i-1].Kind == api.TokenSign {
			continue
		}
		if op, is := words.Find(t.Text); is && (top < 0 || level(t) <= level(l[top])) && words.Level(op) > 0 {
			top = i
		}
	}
	first := l[0]
	switch {
	case top >= 0:
		op, _ := words.Find(l[top].Text)
		return two(op, l[top].At, split(l[:top]), split(l[top+1:]))
	case first.Text == "-":
		return one(api.OpMinus, first.At, split(l[1:]))
	case first.Text == "!":
		return one(api.OpNot, first.At, split(l[1:]))
	case first.Text == "(":
		return split(l[1 : len(l)-1])
	case first.Kind == api.TokenNumber:
		return num(first.Word, first.At)
	}
	return name(first.Text, first.At)
}

func level(t api.Token) int {
	op, _ := words.Find(t.Text)
	return words.Level(op)
}

// 3.1, 3.7: trees of expressions held against ones that are split at the top first.
func TestAgainstSplit(t *testing.T) {
	r := rand.New(rand.NewPCG(3, 3))
	for range 3000 {
		s := grown(r, "Expr", 3+r.IntN(12))
		if len(s) > 4000 {
			continue
		}
		l, _, _ := lexer.Scan(s)
		if got, want := expr(t, s), split(l); !reflect.DeepEqual(got, want) {
			t.Fatalf("Expr(%q) = %+v, not %+v", s, got, want)
		}
	}
}

// 3.7: of two operators the right one is taken first just if it has the higher level.
func TestLevels(t *testing.T) {
	for a := range api.OpCount {
		for b := range api.OpCount {
			if !words.Two(a) || !words.Two(b) {
				continue
			}
			for _, s := range []string{"x", "1"} {
				e := expr(t, s+words.Show(a)+"y"+words.Show(b)+s)
				if words.Level(b) > words.Level(a) {
					if e.Op != a || e.Kids[1].Op != b {
						t.Error(a, b, e)
					}
				} else if e.Op != b || e.Kids[0].Op != a {
					t.Error(a, b, e)
				}
			}
		}
	}
}

// 3.6: parentheses round a whole expression change nothing but places, as long as there is room.
func TestParentheses(t *testing.T) {
	r := rand.New(rand.NewPCG(3, 4))
	for range 1000 {
		s := grown(r, "Expr", 3+r.IntN(6))
		want := expr(t, s)
		if got := expr(t, "("+s+")"); !parse.SameExpr(got, want) || got.At != want.At+1 {
			t.Fatalf("%q: %+v, not %+v", s, got, want)
		}
		got := program(t, "thread a{x=("+s+");if((("+s+"))){}x=swap(y,("+s+"));}").Threads[0].Body
		for i := range 3 {
			if !parse.SameExpr(got[i].E[0], want) {
				t.Fatalf("%q in statement %d: %+v", s, i, got[i])
			}
		}
	}
}
