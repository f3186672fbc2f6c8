package lexer_test

import (
	"iter"
	"regexp"
	"runtime"
	"slices"
	"strconv"
	"strings"
	"testing"
	"time"
	"unsafe"

	"stile/api"
	"stile/lexer"
)

func theWords() []string {
	return []string{"shared", "lock", "thread", "local", "if", "else", "while", "print", "skip", "swap"}
}

func theSigns() []string {
	return []string{"(", ")", "{", "}", ",", ";", "=", "+", "-", "*", "/", "%", "&", "|", "^", "!", "<", ">", "==", "!=", "<=", ">=", "<<", ">>"}
}

func scan(t *testing.T, s string) []api.Token {
	t.Helper()
	l, why, f := lexer.Scan(s)
	if why != api.OK || f != (api.Fault{}) {
		t.Fatalf("Scan(%.80q): error %d, %v", s, why, f)
	}
	return l
}

func print(t *testing.T, l []api.Token) string {
	t.Helper()
	s, why := lexer.Print(l)
	if why != api.OK {
		t.Fatalf("Print(%.80v): error %d", l, why)
	}
	return s
}

// placeless is tokens without their places.
func placeless(l []api.Token) []api.Token {
	l = slices.Clone(l)
	for i := range l {
		l[i].At = 0
	}
	return l
}

// A second cutter, by patterns, is held against the first one.
var (
	blanks  = regexp.MustCompile(`^(?:[ \t\n\r]+|//[^\n]*)`)
	names   = regexp.MustCompile(`^[A-Za-z_][A-Za-z0-9_]*`)
	numbers = regexp.MustCompile(`^[0-9]+`)
	signs   = regexp.MustCompile(`^(?:==|!=|<=|>=|<<|>>|[(){},;=+\-*/%&|^!<>])`)
)

// cut is the tokens of a text up to its first fault, and that.
func cut(s string) ([]api.Token, api.Fault) {
	var l []api.Token
	for at := 0; at < len(s); {
		rest := s[at:]
		if b := blanks.FindString(rest); b != "" {
			at += len(b)
			continue
		}
		x := api.Token{At: at}
		if x.Text = names.FindString(rest); x.Text != "" {
			x.Kind = api.TokenName
			if slices.Contains(theWords(), x.Text) {
				x.Kind = api.TokenWord
			} else if len(x.Text) > 32 {
				return l, api.Fault{At: at + 32, Rule: 2}
			}
		} else if x.Text = numbers.FindString(rest); x.Text != "" {
			n, err := strconv.ParseInt(x.Text, 10, 64)
			if err != nil || strconv.FormatInt(n, 10) != x.Text {
				return l, api.Fault{At: at, Rule: 3}
			}
			if names.MatchString(rest[len(x.Text):]) {
				return l, api.Fault{At: at + len(x.Text), Rule: 4}
			}
			x.Kind, x.Word = api.TokenNumber, n
		} else if x.Text = signs.FindString(rest); x.Text != "" {
			x.Kind = api.TokenSign
		} else {
			return l, api.Fault{At: at, Rule: 1}
		}
		l = append(l, x)
		at += len(x.Text)
	}
	return l, api.Fault{}
}

// texts are texts put together of pieces by a fixed rule; with wrong, of wrong ones too.
func texts(n int, wrong bool) iter.Seq[string] {
	pieces := append(theWords(), theSigns()...)
	pieces = append(pieces, " ", " ", " ", "\t", "\n", "\r", "// r \xff 01 $\n", "//\n", " 0 ", " 7 ", " 9223372036854775807 ", "a", "_", "B9", "if9", "shared_", "x0y")
	if wrong {
		pieces = append(pieces, "$", "\x00", "\xff", ".", "01", "1a", "9223372036854775808", strings.Repeat("n", 33), "0", "5", "//", "\v", "\f", "@", "é")
	}
	return func(yield func(string) bool) {
		x := uint64(88172645463325252)
		for range n {
			s := ""
			for range 1 + x>>50%14 {
				x ^= x << 13
				x ^= x >> 7
				x ^= x << 17
				s += pieces[x>>20%uint64(len(pieces))]
			}
			if !yield(s) {
				return
			}
		}
	}
}

// good are texts without a fault.
func good(n int) iter.Seq[string] {
	return func(yield func(string) bool) {
		for s := range texts(n, false) {
			if _, f := cut(s); f.Rule == 0 && !yield(s) {
				return
			}
		}
	}
}

// P2.1: names.
func TestName(t *testing.T) {
	for _, s := range []string{"a", "Z", "_", "_a9", "if9", "If", "IF", "shared_", "a" + strings.Repeat("9", 31), strings.Repeat("_", 32)} {
		if !lexer.Name(s) {
			t.Errorf("%q is a name", s)
		}
	}
	for _, s := range append(theWords(), "", "9", "9a", "a b", " a", "a ", "a-b", "a$", "é", "a\x00", "\xff", "a"+strings.Repeat("9", 32), strings.Repeat("_", 1<<17), "=", "//") {
		if lexer.Name(s) {
			t.Errorf("%.80q is no name", s)
		}
	}
}

// P2.1: words of the language, and signs.
func TestWordAndSign(t *testing.T) {
	for _, s := range theWords() {
		if !lexer.Word(s) || lexer.Sign(s) {
			t.Errorf("%q is a word", s)
		}
	}
	for _, s := range theSigns() {
		if !lexer.Sign(s) || lexer.Word(s) || lexer.Name(s) {
			t.Errorf("%q is a sign", s)
		}
	}
	for _, s := range []string{"", " ", "a", "If", "if ", " if", "iff", "main", "var", "0", "\xff"} {
		if lexer.Word(s) {
			t.Errorf("%q is no word", s)
		}
	}
	for _, s := range []string{"", " ", "a", "&&", "||", "<<=", "===", "= ", " =", "=<", "=>", "++", "//", "()", ".", "~", "[", ":", "\"", "0", "\xff"} {
		if lexer.Sign(s) {
			t.Errorf("%q is no sign", s)
		}
	}
	for c := range 256 {
		s := string([]byte{byte(c)})
		if want := slices.Contains(theSigns(), s); lexer.Sign(s) != want {
			t.Errorf("Sign(%q) is not %v", s, want)
		}
		if want := names.MatchString(s); lexer.Name(s) != want {
			t.Errorf("Name(%q) is not %v", s, want)
		}
	}
}

// P2.2: the chapter's examples, and texts with nothing in them.
func TestScanExamples(t *testing.T) {
	name := func(s string, at int) api.Token { return api.Token{Kind: api.TokenName, Text: s, At: at} }
	sign := func(s string, at int) api.Token { return api.Token{Kind: api.TokenSign, Text: s, At: at} }
	for s, want := range map[string][]api.Token{
		"x<<=1":               {name("x", 0), sign("<<", 1), sign("=", 3), {Kind: api.TokenNumber, Text: "1", Word: 1, At: 4}},
		"a!==b":               {name("a", 0), sign("!=", 1), sign("=", 3), name("b", 4)},
		"if9 if":              {name("if9", 0), {Kind: api.TokenWord, Text: "if", At: 4}},
		"9223372036854775807": {{Kind: api.TokenNumber, Text: "9223372036854775807", Word: 1<<63 - 1}},
		"0":                   {{Kind: api.TokenNumber, Text: "0"}},
		"// x":                nil,
		"":                    nil,
		" \t\r\n":             nil,
		"//":                  nil,
		"// a\r// b\n//":      nil,
		"/ /":                 {sign("/", 0), sign("/", 2)},
		"/":                   {sign("/", 0)},
		"/// x\ny":            {name("y", 6)},
		"a//b\nc":             {name("a", 0), name("c", 5)},
		"a// \xff$01\n<<<":    {name("a", 0), sign("<<", 9), sign("<", 11)},
		"-1":                  {sign("-", 0), {Kind: api.TokenNumber, Text: "1", Word: 1, At: 1}},
		"1 2":                 {{Kind: api.TokenNumber, Text: "1", Word: 1}, {Kind: api.TokenNumber, Text: "2", Word: 2, At: 2}},
		"=== &&":              {sign("==", 0), sign("=", 2), sign("&", 4), sign("&", 5)},
	} {
		if got := scan(t, s); !slices.Equal(got, want) {
			t.Errorf("Scan(%q) = %v", s, got)
		}
	}
}

// P2.2, P2: the rules, the least of them first, with the places; beside a fault nothing.
func TestScanFaults(t *testing.T) {
	long := strings.Repeat("n", api.MaxName)
	for s, want := range map[string]api.Fault{
		"$": {At: 0, Rule: 1}, "a $": {At: 2, Rule: 1}, "a\x00": {At: 1, Rule: 1}, "é": {At: 0, Rule: 1}, "\v": {At: 0, Rule: 1}, "a.b": {At: 1, Rule: 1}, "~$": {At: 0, Rule: 1},
		long + "n": {At: 32, Rule: 2}, " " + long + "9$": {At: 33, Rule: 2}, "x=" + long + long: {At: 34, Rule: 2},
		"01": {At: 0, Rule: 3}, "00": {At: 0, Rule: 3}, "x 007": {At: 2, Rule: 3}, "01a": {At: 0, Rule: 3}, "01$": {At: 0, Rule: 3},
		"9223372036854775808": {At: 0, Rule: 3}, "-9223372036854775808": {At: 1, Rule: 3}, "9223372036854775808a": {At: 0, Rule: 3}, "99999999999999999999999": {At: 0, Rule: 3}, "18446744073709551617": {At: 0, Rule: 3},
		"1a": {At: 1, Rule: 4}, "0x1": {At: 1, Rule: 4}, "12_": {At: 2, Rule: 4}, "1if": {At: 1, Rule: 4}, "0_": {At: 1, Rule: 4}, "1a 01 $": {At: 1, Rule: 4},
	} {
		if l, why, f := lexer.Scan(s); len(l) != 0 || why != api.ErrLex || f != want {
			t.Errorf("Scan(%q) = %v, error %d, %v, not %v", s, l, why, f, want)
		}
	}
	if l := scan(t, long+" "+long); len(l) != 2 || l[0].Text != long {
		t.Error("names of MaxName bytes:", l)
	}
}

// P2.2: how long a text may be.
func TestScanLength(t *testing.T) {
	most := strings.Repeat(" ", api.MaxText-1) + "x"
	if l := scan(t, most); len(l) != 1 || l[0].At != api.MaxText-1 {
		t.Error("a text of MaxText bytes:", l)
	}
	for _, s := range []string{" " + most, "$" + most, most + strings.Repeat("$", 1<<18)} {
		if l, why, f := lexer.Scan(s); len(l) != 0 || why != api.ErrLong || f != (api.Fault{}) {
			t.Errorf("a text of %d bytes: %d tokens, error %d, %v", len(s), len(l), why, f)
		}
		for x := range lexer.Each(s) {
			t.Error("Each of a text that is too long:", x)
		}
	}
}

// P2.2, P2.8: both cutters tell the same, of good texts and of wrong ones.
func TestScanAgainstPatterns(t *testing.T) {
	for s := range texts(20000, true) {
		want, fault := cut(s)
		l, why, f := lexer.Scan(s)
		if f != fault || (why == api.OK) != (fault.Rule == 0) || why != api.OK && why != api.ErrLex {
			t.Fatalf("Scan(%q): error %d, %v, not %v", s, why, f, fault)
		}
		if why == api.OK && !slices.Equal(l, want) || why != api.OK && len(l) != 0 {
			t.Fatalf("Scan(%q) = %v, not %v", s, l, want)
		}
		if got := slices.Collect(lexer.Each(s)); !slices.Equal(got, want) {
			t.Fatalf("Each(%q) yields %v, not %v", s, got, want)
		}
	}
}

// P2.2: Each stops where it is told to, and yields the same when it is asked again.
func TestEachStops(t *testing.T) {
	each := lexer.Each("a b c $ d")
	for stop := range 5 {
		got := ""
		for x := range each {
			got += x.Text
			if len(got) == stop {
				break
			}
		}
		if want := []string{"abc", "a", "ab", "abc", "abc"}[stop]; got != want {
			t.Errorf("stopped at %d: %q", stop, got)
		}
	}
}

// P2.3: texts of tokens.
func TestPrint(t *testing.T) {
	for s, want := range map[string]string{"x=1 ;": "x = 1 ;", "": "", " // x": "", "if(a)": "if ( a )", "<<<": "<< <", "9223372036854775807": "9223372036854775807"} {
		if got := print(t, scan(t, s)); got != want {
			t.Errorf("Print of %q = %q", s, got)
		}
	}
	if s, why := lexer.Print(nil); s != "" || why != api.OK {
		t.Error("Print of none:", s, why)
	}
	l := []api.Token{{Kind: api.TokenName, Text: "a", At: -7}, {Kind: api.TokenName, Text: "b", At: 1 << 40}, {Kind: api.TokenSign, Text: ";", At: -7}}
	if got := print(t, l); got != "a b ;" {
		t.Errorf("Print with any places = %q", got)
	}
}

// P2.3, P1, P2: tokens that Scan tells of no text.
func TestPrintNoTokens(t *testing.T) {
	for _, x := range []api.Token{
		{}, {Text: "a"}, {Kind: api.TokenCount, Text: "a"}, {Kind: 255, Text: "a"},
		{Kind: api.TokenName}, {Kind: api.TokenName, Text: "if"}, {Kind: api.TokenName, Text: "9"}, {Kind: api.TokenName, Text: "a", Word: 1}, {Kind: api.TokenName, Text: "a b"}, {Kind: api.TokenName, Text: " a"}, {Kind: api.TokenName, Text: strings.Repeat("a", 33)}, {Kind: api.TokenName, Text: strings.Repeat("a", 1<<17)},
		{Kind: api.TokenWord}, {Kind: api.TokenWord, Text: "a"}, {Kind: api.TokenWord, Text: "if", Word: -1}, {Kind: api.TokenWord, Text: "="},
		{Kind: api.TokenNumber}, {Kind: api.TokenNumber, Text: "1"}, {Kind: api.TokenNumber, Text: "1", Word: 2}, {Kind: api.TokenNumber, Text: "01", Word: 1}, {Kind: api.TokenNumber, Text: "-1", Word: -1}, {Kind: api.TokenNumber, Text: "+1", Word: 1}, {Kind: api.TokenNumber, Text: "9223372036854775808", Word: -1 << 63}, {Kind: api.TokenNumber, Text: "18446744073709551617", Word: 1}, {Kind: api.TokenNumber, Text: "1 ", Word: 1}, {Kind: api.TokenNumber, Text: "1x", Word: 1}, {Kind: api.TokenNumber, Text: "a"},
		{Kind: api.TokenSign}, {Kind: api.TokenSign, Text: "&&"}, {Kind: api.TokenSign, Text: "//"}, {Kind: api.TokenSign, Text: "=", Word: 1}, {Kind: api.TokenSign, Text: "a"}, {Kind: api.TokenSign, Text: "\xff"},
	} {
		for _, l := range [][]api.Token{{x}, {{Kind: api.TokenName, Text: "a"}, x}, append(slices.Repeat([]api.Token{{Kind: api.TokenName, Text: "a"}}, api.MaxText), x)} {
			if s, why := lexer.Print(l); s != "" || why != api.ErrRange {
				t.Errorf("Print of %d tokens with %.80v: %.80q, error %d", len(l), x, s, why)
			}
		}
	}
}

// P2.3: how long a text of tokens may be.
func TestPrintLength(t *testing.T) {
	l := slices.Repeat([]api.Token{{Kind: api.TokenName, Text: "a"}}, api.MaxText/2)
	l[0].Text = "ab"
	if s := print(t, l); len(s) != api.MaxText {
		t.Error("a text of MaxText bytes has", len(s))
	}
	l[1].Text = "ab"
	if s, why := lexer.Print(l); s != "" || why != api.ErrLong {
		t.Errorf("one byte more: %d bytes, error %d", len(s), why)
	}
}

// P2.4: places.
func TestPlace(t *testing.T) {
	for _, x := range []struct {
		s             string
		at, line, col int
	}{{"a\nb", 2, 2, 1}, {"", 0, 1, 1}, {"a\nb", 0, 1, 1}, {"a\nb", 1, 1, 2}, {"a\nb", 3, 2, 2}, {"\n\n", 1, 2, 1}, {"\n\n", 2, 3, 1}, {"a\r\n\té$", 5, 2, 3}, {strings.Repeat("x\n", api.MaxText), 2*api.MaxText - 1, api.MaxText, 2}} {
		if line, col, why := lexer.Place(x.s, x.at); line != x.line || col != x.col || why != api.OK {
			t.Errorf("Place(%.20q, %d) = %d, %d, error %d", x.s, x.at, line, col, why)
		}
	}
	for _, x := range []struct {
		s  string
		at int
	}{{"", 1}, {"", -1}, {"a\nb", 4}, {"a\nb", -1}, {"a", 1 << 62}, {"a", -1 << 63}} {
		if line, col, why := lexer.Place(x.s, x.at); line != 0 || col != 0 || why != api.ErrRange {
			t.Errorf("Place(%q, %d) = %d, %d, error %d", x.s, x.at, line, col, why)
		}
	}
}

// P2.4: line and column lead back to the byte.
func TestPlaceLeadsBack(t *testing.T) {
	for s := range texts(300, true) {
		lines := strings.Split(s, "\n")
		for at := range len(s) + 1 {
			line, col, why := lexer.Place(s, at)
			if why != api.OK || line < 1 || line > len(lines) || col < 1 || col > len(lines[line-1])+1 {
				t.Fatalf("Place(%q, %d) = %d, %d, error %d", s, at, line, col, why)
			}
			back := col - 1
			for _, l := range lines[:line-1] {
				back += len(l) + 1
			}
			if back != at {
				t.Fatalf("Place(%q, %d) = %d, %d leads to %d", s, at, line, col, back)
			}
		}
	}
}

// P2.5: answers are new memory, what is handed in is neither changed nor kept.
func TestNewMemory(t *testing.T) {
	bytes := []byte("shared x = 12; // r")
	s := unsafe.String(&bytes[0], len(bytes))
	first, each := scan(t, s), lexer.Each(s)
	want := slices.Collect(lexer.Each("shared x = 12; // r"))
	if string(bytes) != "shared x = 12; // r" {
		t.Error("the text was changed")
	}
	for i := range bytes {
		bytes[i] = '$'
	}
	if !slices.Equal(first, want) || !slices.Equal(slices.Collect(each), want) {
		t.Error("the text that was handed in is kept")
	}
	second := scan(t, "shared x = 12; // r")
	clear(first)
	if !slices.Equal(second, want) || !slices.Equal(scan(t, "shared x = 12; // r"), want) {
		t.Error("answers share memory")
	}
	if got := print(t, second); got != "shared x = 12 ;" || !slices.Equal(second, want) {
		t.Error("Print changes its tokens")
	}
}

// P2.6: there and back.
func TestBack(t *testing.T) {
	n := 0
	for s := range good(5000) {
		l := scan(t, s)
		p := print(t, l)
		again := scan(t, p)
		if !slices.Equal(placeless(again), placeless(l)) || print(t, again) != p {
			t.Fatalf("%q: %q", s, p)
		}
		n += len(l)
	}
	if n < 1000 {
		t.Error("only", n, "tokens")
	}
}

// P2.7: blanks and remarks between tokens change places alone.
func TestBlanks(t *testing.T) {
	for s := range good(1000) {
		l := scan(t, s)
		for _, b := range []string{" ", "\t", "\n", "\r", "//\n", "// x = 01 $ \xff\n", " // a // b\n\t"} {
			wide, last := "", 0
			for _, x := range append(l, api.Token{At: len(s)}) {
				wide += s[last:x.At]
				if strings.HasSuffix(wide, "/") { // a remark right behind it would take the sign in
					wide += " "
				}
				wide += b + x.Text
				last = x.At + len(x.Text)
			}
			if got := scan(t, wide); !slices.Equal(placeless(got), placeless(l)) {
				t.Fatalf("%q and %q", s, wide)
			}
		}
	}
}

// P2.8: places rise, bytes stand there, and between them are blanks and remarks alone.
func TestPlaces(t *testing.T) {
	for s := range good(3000) {
		last := 0
		l := append(scan(t, s), api.Token{At: len(s)})
		for i, x := range l {
			if x.At < last || x.Text == "" && i < len(l)-1 {
				t.Fatalf("%q: %v behind %d", s, x, last)
			}
			if !strings.HasPrefix(s[x.At:], x.Text) {
				t.Fatalf("%q: %v does not stand there", s, x)
			}
			for gap := s[last:x.At]; gap != ""; {
				b := blanks.FindString(gap)
				if b == "" {
					t.Fatalf("%q: %q is left out", s, gap)
				}
				gap = gap[len(b):]
			}
			last = x.At + len(x.Text)
		}
	}
}

// P2.9: what stands behind the line of a fault changes nothing.
func TestFaultStays(t *testing.T) {
	n := 0
	for s := range texts(5000, true) {
		_, why, fault := lexer.Scan(s)
		if why == api.OK {
			continue
		}
		n++
		ahead := slices.Collect(lexer.Each(s))
		line := s
		if end := strings.IndexByte(s[fault.At:], '\n'); end >= 0 {
			line = s[:fault.At+end]
		}
		for _, behind := range []string{"", "\n", "\n$", "\nx = 01", "\n// y", "\n" + strings.Repeat("q", 99)} {
			l, why, f := lexer.Scan(line + behind)
			if len(l) != 0 || why != api.ErrLex || f != fault || !slices.Equal(slices.Collect(lexer.Each(line+behind)), ahead) {
				t.Fatalf("%q with %q behind: error %d, %v, not %v", line, behind, why, f, fault)
			}
		}
	}
	if n < 1000 {
		t.Error("only", n, "texts with faults")
	}
}

// P1: any bytes.
func TestAnyBytes(t *testing.T) {
	x := uint64(1)
	for n := range 3000 {
		b := make([]byte, n%40)
		for i := range b {
			x = x*6364136223846793005 + 1442695040888963407
			b[i] = byte(x >> 56)
		}
		s := string(b)
		want, fault := cut(s)
		if l, why, f := lexer.Scan(s); f != fault || why == api.OK && !slices.Equal(l, want) {
			t.Fatalf("Scan(%q) = %v, error %d, %v", s, l, why, f)
		}
		lexer.Name(s)
		lexer.Word(s)
		lexer.Sign(s)
		lexer.Print([]api.Token{{Kind: api.TokenKind(n), Text: s, Word: int64(x), At: int(x)}})
	}
	lexer.Each("a b")(nil)
}

// P3, P4: the same answers at each time, and to two that ask by turns; no goroutine is left.
func TestAlways(t *testing.T) {
	ahead := runtime.NumGoroutine()
	each := lexer.Each("a b c")
	for x := range each {
		inner := ""
		for y := range each {
			inner += y.Text
		}
		if inner != "abc" || x.Kind != api.TokenName {
			t.Error("two that ask at one time:", x, inner)
		}
	}
	done := make(chan string)
	for range 8 {
		go func() {
			all := ""
			for s := range texts(500, true) {
				l, why, f := lexer.Scan(s)
				p, _ := lexer.Print(l)
				all += p + strconv.Itoa(int(why)) + strconv.Itoa(f.At) + strconv.Itoa(f.Rule)
			}
			done <- all
		}()
	}
	first := <-done
	for range 7 {
		if <-done != first {
			t.Error("two answers to one question")
		}
	}
	for range 1000 {
		if runtime.NumGoroutine() <= ahead {
			return
		}
		time.Sleep(time.Millisecond)
	}
	t.Error("goroutines are left")
}
