package target_test

import (
	"encoding/binary"
	"fmt"
	"math/rand/v2"
	"regexp"
	"runtime"
	"slices"
	"strconv"
	"strings"
	"testing"
	"time"

	"stile/api"
	"stile/target"
	"stile/words"
)

func anyWord(r *rand.Rand) int64 {
	w := r.Int64() >> r.IntN(64)
	if r.IntN(2) == 0 {
		return -w - 1
	}
	return w
}

// anyInstr is a right instruction by chance.
func anyInstr(r *rand.Rand, code, memory int) api.Instr {
	i := api.Instr{Kind: api.InstrKind(1 + r.IntN(int(api.InstrCount)-1))}
	if r.IntN(2) == 0 {
		i.From = r.IntN(api.MaxNodes + 1)
	}
	reg := func() int { return r.IntN(api.NumRegs) }
	switch i.Kind {
	case api.InstrSet:
		i.D, i.Word = reg(), anyWord(r)
	case api.InstrOp:
		i.Op, i.D, i.A = api.Op(1+r.IntN(int(api.OpCount)-1)), reg(), reg()
		if words.Two(i.Op) {
			i.B = reg()
		}
	case api.InstrLoad, api.InstrSwap, api.InstrStore:
		if memory == 0 {
			return api.Instr{Kind: api.InstrFence}
		}
		i.Addr = r.IntN(memory)
		if i.Kind == api.InstrStore {
			i.A = reg()
		} else {
			i.D = reg()
		}
	case api.InstrPrint:
		i.A = reg()
	case api.InstrJump:
		i.To = r.IntN(code)
	case api.InstrZero:
		i.A, i.To = reg(), r.IntN(code)
	}
	return i
}

// anyObject is a right object by chance.
func anyObject(r *rand.Rand) api.Object {
	o := api.Object{Shared: r.IntN(4), Locks: r.IntN(3), Buffer: 1 + r.IntN(api.MaxBuffer)}
	for range o.Shared + o.Locks + r.IntN(5) {
		o.Memory = append(o.Memory, anyWord(r))
	}
	for range r.IntN(4) {
		c := api.Core{Name: string(rune('a'+len(o.Cores))) + strings.Repeat("_9", r.IntN(4))}
		code := 1 + r.IntN(12)
		for range code {
			c.Code = append(c.Code, anyInstr(r, code, len(o.Memory)))
		}
		c.Code[code-1] = api.Instr{Kind: api.InstrHalt, From: r.IntN(200)}
		if r.IntN(2) == 0 {
			c.Code[code-1] = api.Instr{Kind: api.InstrJump, To: r.IntN(code)}
		}
		o.Cores = append(o.Cores, c)
	}
	return o
}

// told is an object's text by the chapter's words; toldBytes, its bytes.
func told(o api.Object) string {
	s := fmt.Sprint("object ", o.Shared, " ", o.Locks, " ", o.Buffer, "\nmemory")
	for _, w := range o.Memory {
		s += fmt.Sprint(" ", w)
	}
	s += "\n"
	ops := strings.Fields("- add sub mul div rem and or xor shl shr is isnot less most above least minus not")
	for _, c := range o.Cores {
		s += "core " + c.Name + "\n"
		for _, i := range c.Code {
			s += map[api.InstrKind]string{
				api.InstrSet:   fmt.Sprint("set r", i.D, " ", i.Word),
				api.InstrOp:    fmt.Sprint(ops[i.Op], " r", i.D, " r", i.A),
				api.InstrLoad:  fmt.Sprint("load r", i.D, " ", i.Addr),
				api.InstrStore: fmt.Sprint("store r", i.A, " ", i.Addr),
				api.InstrSwap:  fmt.Sprint("swap r", i.D, " ", i.Addr),
				api.InstrFence: "fence",
				api.InstrPrint: fmt.Sprint("print r", i.A),
				api.InstrJump:  fmt.Sprint("jump ", i.To),
				api.InstrZero:  fmt.Sprint("zero r", i.A, " ", i.To),
				api.InstrHalt:  "halt",
			}[i.Kind]
			if words.Two(i.Op) {
				s += fmt.Sprint(" r", i.B)
			}
			if i.From > 0 {
				s += fmt.Sprint(" @", i.From)
			}
			s += "\n"
		}
	}
	return s
}

func toldBytes(o api.Object) []byte {
	b := []byte{0x73, 0x74, 0x69, 0x6c}
	put := func(l ...int) {
		for _, n := range l {
			b = binary.AppendUvarint(b, uint64(n))
		}
	}
	put(o.Shared, o.Locks, o.Buffer, len(o.Memory))
	for _, w := range o.Memory {
		b = binary.AppendVarint(b, w)
	}
	put(len(o.Cores))
	for _, c := range o.Cores {
		put(len(c.Name))
		b = append(b, c.Name...)
		put(len(c.Code))
		for _, i := range c.Code {
			put(int(i.Kind))
			switch i.Kind {
			case api.InstrSet:
				put(i.D)
				b = binary.AppendVarint(b, i.Word)
			case api.InstrOp:
				put(int(i.Op), i.D, i.A)
				if words.Two(i.Op) {
					put(i.B)
				}
			case api.InstrLoad, api.InstrSwap:
				put(i.D, i.Addr)
			case api.InstrStore:
				put(i.A, i.Addr)
			case api.InstrPrint:
				put(i.A)
			case api.InstrJump:
				put(i.To)
			case api.InstrZero:
				put(i.A, i.To)
			}
			put(i.From)
		}
	}
	return b
}

const (
	sizes   = `(?:0|[1-9][0-9]*)`
	signed  = `(?:0|-?[1-9][0-9]*)`
	twos    = `(?:add|sub|mul|div|rem|and|or|xor|shl|shr|is|isnot|less|most|above|least)`
	reg     = ` r` + sizes
	anyLine = `set` + reg + ` ` + signed + `|` + twos + reg + reg + reg + `|(?:minus|not)` + reg + reg + `|(?:load|store|swap)` + reg + ` ` + sizes +
		`|fence|print` + reg + `|jump ` + sizes + `|zero` + reg + ` ` + sizes + `|halt`
)

var (
	headForm   = regexp.MustCompile(`^object ` + sizes + ` ` + sizes + ` ` + sizes + `$`)
	memoryForm = regexp.MustCompile(`^memory(?: ` + signed + `)*$`)
	coreForm   = regexp.MustCompile(`^core [^ ]*$`)
	instrForm  = regexp.MustCompile(`^(?:` + anyLine + `)(?: @[1-9][0-9]*)?$`)
	digits     = regexp.MustCompile(`-?[0-9]+`)
)

// faultOf is the first byte of the first line of a text that is not as it must be; -1, if all are.
func faultOf(s string) int {
	lines := strings.SplitAfter(s, "\n")
	at, cores := 0, 0
	for n, line := range lines {
		body, isWhole := strings.CutSuffix(line, "\n")
		if line == "" && n >= 2 {
			break
		}
		isCore := n >= 2 && strings.HasPrefix(body, "core ")
		isGood := false
		switch {
		case n == 0:
			isGood = headForm.MatchString(body)
		case n == 1:
			isGood = memoryForm.MatchString(body)
		case isCore:
			cores++
			isGood = coreForm.MatchString(body)
		default:
			isGood = cores > 0 && instrForm.MatchString(body)
		}
		for _, number := range digits.FindAllString(body, -1) {
			if _, err := strconv.ParseInt(number, 10, 64); err != nil && !isCore {
				isGood = false
			}
		}
		if !isGood || !isWhole {
			return at
		}
		at += len(line)
	}
	return -1
}

// spoil changes a text, or bytes, at one place or a few.
func spoil(r *rand.Rand, s string, signs []string) string {
	for range 1 + r.IntN(2) {
		at := r.IntN(len(s) + 1)
		to := min(len(s), at+r.IntN(3))
		switch r.IntN(4) {
		case 0:
			s = s[:at] + s[to:]
		case 1:
			s = s[:at] + signs[r.IntN(len(signs))] + s[to:]
		case 2:
			s = s[:at] + signs[r.IntN(len(signs))] + s[at:]
		default:
			s = s[:to] + s[at:]
		}
	}
	return s
}

// 16.3, 16.6: objects by chance, and texts that are nearly those of objects, held against the chapter's words.
func TestTexts(t *testing.T) {
	r := rand.New(rand.NewPCG(16, 3))
	signs := strings.Split("0|1|9|-|5 | |\n| @|@3|@0|r|r1| r0|core |core b\n|halt\n|add|memory|object|x|\x00|65536|not r1 r2\n|set r3 -4\n|\r|18446744073709551616", "|")
	seen := map[string]int{}
	for range 40000 {
		o := anyObject(r)
		s, why := target.Print(o)
		if why != api.OK || s != told(o) {
			t.Fatalf("Print = %q, error %d, not %q", s, why, told(o))
		}
		if p, why, at := target.Parse(s); why != api.OK || at != 0 || !target.Same(o, p) {
			t.Fatalf("Parse(%q) = %v, error %d at %d", s, p, why, at)
		}
		s = spoil(r, s, signs)
		p, why, at := target.Parse(s)
		if why == api.OK {
			if no, _, _ := target.Check(p); no != api.OK || at != 0 || told(p) != s {
				t.Fatalf("Parse(%q) = %v at %d", s, p, at)
			}
			seen["one"]++
			continue
		}
		if !target.Same(p, api.Object{}) {
			t.Fatalf("Parse(%q) = %v, error %d", s, p, why)
		}
		switch place := faultOf(s); {
		case place >= 0 && (why != api.ErrText || at != place):
			t.Fatalf("Parse(%q): error %d at %d, not at %d", s, why, at, place)
		case place < 0 && (why != api.ErrObject || at != 0 || isOne(s)):
			t.Fatalf("Parse(%q): error %d at %d", s, why, at)
		}
		seen[fmt.Sprint("error ", why)]++
	}
	for _, what := range []string{"one", "error 160", "error 161"} {
		if seen[what] < 1000 {
			t.Error(what, seen[what])
		}
	}
}

// isOne tells whether lines that are as they must be say a right object: it is made of them, and looked at.
func isOne(s string) bool {
	lines := strings.Split(s, "\n")
	o := api.Object{}
	fmt.Sscanf(lines[0], "object %d %d %d", &o.Shared, &o.Locks, &o.Buffer)
	number := func(s string) int {
		n, _ := strconv.Atoi(strings.TrimLeft(s, "r@"))
		return n
	}
	for _, w := range strings.Fields(lines[1])[1:] {
		o.Memory = append(o.Memory, int64(number(w)))
	}
	ops := strings.Fields("- add sub mul div rem and or xor shl shr is isnot less most above least minus not")
	for _, line := range lines[2 : len(lines)-1] {
		if name, is := strings.CutPrefix(line, "core "); is {
			o.Cores = append(o.Cores, api.Core{Name: name})
			continue
		}
		var i api.Instr
		if head, from, is := strings.Cut(line, " @"); is {
			line, i.From = head, number(from)
		}
		l := append(strings.Fields(line), "0", "0", "0")
		a, b, c := number(l[1]), number(l[2]), number(l[3])
		switch l[0] {
		case "set":
			i.Kind, i.D, i.Word = api.InstrSet, a, int64(b)
		case "load":
			i.Kind, i.D, i.Addr = api.InstrLoad, a, b
		case "store":
			i.Kind, i.A, i.Addr = api.InstrStore, a, b
		case "swap":
			i.Kind, i.D, i.Addr = api.InstrSwap, a, b
		case "fence":
			i.Kind = api.InstrFence
		case "print":
			i.Kind, i.A = api.InstrPrint, a
		case "jump":
			i.Kind, i.To = api.InstrJump, a
		case "zero":
			i.Kind, i.A, i.To = api.InstrZero, a, b
		case "halt":
			i.Kind = api.InstrHalt
		default:
			i.Kind, i.Op, i.D, i.A, i.B = api.InstrOp, api.Op(slices.Index(ops, l[0])), a, b, c
		}
		last := &o.Cores[len(o.Cores)-1]
		last.Code = append(last.Code, i)
	}
	why, _, _ := target.Check(o)
	return why == api.OK
}

// lenient reads bytes as those of an object, needless ones too; false, if they run out, or are too many.
func lenient(b []byte) (o api.Object, is bool) {
	defer func() {
		if recover() != nil {
			o, is = api.Object{}, false
		}
	}()
	take := func() uint64 {
		n, size := binary.Uvarint(b)
		if size <= 0 {
			panic("cut")
		}
		b = b[size:]
		return n
	}
	number := func() int { return int(take()) }
	word := func() int64 {
		n := take()
		if n%2 == 1 {
			return -int64(n/2) - 1
		}
		return int64(n / 2)
	}
	if string(b[:4]) != "stil" {
		return o, false
	}
	b = b[4:]
	o.Shared, o.Locks, o.Buffer = number(), number(), number()
	for range number() {
		o.Memory = append(o.Memory, word())
	}
	for range number() {
		size := number()
		c := api.Core{Name: string(b[:size])}
		b = b[size:]
		for range number() {
			i := api.Instr{Kind: api.InstrKind(number())}
			switch i.Kind {
			case api.InstrSet:
				i.D, i.Word = number(), word()
			case api.InstrOp:
				i.Op, i.D, i.A = api.Op(number()), number(), number()
				if words.Two(i.Op) {
					i.B = number()
				}
			case api.InstrLoad, api.InstrSwap:
				i.D, i.Addr = number(), number()
			case api.InstrStore:
				i.A, i.Addr = number(), number()
			case api.InstrPrint:
				i.A = number()
			case api.InstrJump:
				i.To = number()
			case api.InstrZero:
				i.A, i.To = number(), number()
			}
			i.From = number()
			c.Code = append(c.Code, i)
		}
		o.Cores = append(o.Cores, c)
	}
	return o, len(b) == 0
}

// 16.4, 16.6, 16.7: objects by chance, and bytes that are nearly those of objects, held against the chapter's words.
func TestBytes(t *testing.T) {
	r := rand.New(rand.NewPCG(16, 4))
	var signs []string
	for n := range 24 {
		signs = append(signs, string([]byte{byte(n)}), string([]byte{byte(0x80 + n)}), string([]byte{byte(0x80 + n), 0}), string([]byte{1, byte(97 + n)}))
	}
	seen := map[string]int{}
	for range 40000 {
		o := anyObject(r)
		b, why := target.Encode(o)
		if why != api.OK || string(b) != string(toldBytes(o)) {
			t.Fatalf("Encode = %x, error %d, not %x", b, why, toldBytes(o))
		}
		if p, why := target.Decode(b); why != api.OK || !target.Same(o, p) {
			t.Fatalf("Decode(%x) = %v, error %d", b, p, why)
		}
		cut := r.IntN(len(b))
		if _, why := target.Decode(b[:cut]); why != api.ErrBytes {
			t.Fatalf("Decode(%x) = error %d", b[:cut], why)
		}
		more := slices.Concat(b, b[cut:])
		if _, why := target.Decode(more); why != api.ErrBytes {
			t.Fatalf("Decode(%x) = error %d", more, why)
		}
		b = []byte(spoil(r, string(b), signs))
		want, isOne := lenient(b)
		if no, _, _ := target.Check(want); no != api.OK || string(toldBytes(want)) != string(b) {
			want, isOne = api.Object{}, false
		}
		p, why := target.Decode(b)
		if (why == api.OK) != isOne || !isOne && why != api.ErrBytes || !target.Same(p, want) {
			t.Fatalf("Decode(%x) = %v, error %d, not %v", b, p, why, want)
		}
		seen[fmt.Sprint("one ", isOne)]++
	}
	if seen["one true"] < 1000 || seen["one false"] < 1000 {
		t.Error(seen)
	}
}

// 16.7: a text that is cut, or has more behind it, is that of another object only by whole lines of instructions or cores.
func TestCut(t *testing.T) {
	r := rand.New(rand.NewPCG(16, 7))
	cuts := 0
	for range 300 {
		o := anyObject(r)
		s := told(o)
		for at := range s {
			p, why, _ := target.Parse(s[:at])
			if why != api.OK {
				continue
			}
			cuts++
			isLine := s[at-1] == '\n' && strings.Count(s[:at], "\n") >= 2
			if !isLine || p.Shared != o.Shared || !slices.Equal(p.Memory, o.Memory) || len(p.Cores) > len(o.Cores) {
				t.Fatalf("Parse(%q) = %v", s[:at], p)
			}
		}
		for _, more := range []string{" ", "\n", "x", "\x00", "halt", " halt\n", "core", "core z", "memory\n", "\n\n"} {
			if _, why, _ := target.Parse(s + more); why != api.ErrText {
				t.Fatalf("Parse(%q) = error %d", s+more, why)
			}
		}
		if p, why, _ := target.Parse(s + "core z\nfence\nhalt\n"); why != api.OK || len(p.Cores) != len(o.Cores)+1 {
			t.Fatalf("Parse of one more core: %v, error %d", p, why)
		}
	}
	if cuts < 300 {
		t.Error(cuts)
	}
}

// 16.8: from a right code's instruction one comes to its instructions alone.
func TestFollows(t *testing.T) {
	r := rand.New(rand.NewPCG(16, 8))
	for range 3000 {
		for _, c := range anyObject(r).Cores {
			for at, i := range c.Code {
				for _, to := range target.Follows(i, at) {
					if to < 0 || to >= len(c.Code) {
						t.Fatalf("from %v at %d of %d to %d", i, at, len(c.Code), to)
					}
				}
			}
		}
	}
}

// answers is all that the package tells of an object.
func answers(o api.Object) string {
	why, core, at := target.Check(o)
	s, no := target.Print(o)
	b, not := target.Encode(o)
	p, nor, _ := target.Parse(s)
	q, neither := target.Decode(b)
	all := fmt.Sprint(why, core, at, s, no, b, not, p, nor, q, neither, target.Same(o, p))
	for _, c := range o.Cores {
		for at, i := range c.Code {
			d, is := target.Writes(i)
			all += fmt.Sprint(target.Show(i), target.Reads(i), d, is, target.Follows(i, at), target.Drains(i.Kind), target.Right(i, 3, 4))
		}
	}
	return all
}

// 16.5: answers are new memory, in all their lists; what is handed in is neither changed nor kept.
func TestNewMemory(t *testing.T) {
	r := rand.New(rand.NewPCG(16, 5))
	for range 300 {
		o := anyObject(r)
		want, s, bytes := answers(o), told(o), toldBytes(o)
		b, _ := target.Encode(o)
		clear(b[:cap(b)])
		if answers(o) != want || told(o) != s {
			t.Error("an object, or an answer, is changed")
		}
		given := slices.Clone(bytes)
		p, _, _ := target.Parse(s)
		q, _ := target.Decode(given)
		if clear(given); string(toldBytes(q)) != string(bytes) {
			t.Error("what is handed in is kept")
		}
		for _, x := range []api.Object{p, q} {
			for i := range x.Cores {
				rest := fmt.Sprint(x.Memory, slices.Delete(slices.Clone(x.Cores), i, i+1))
				clear(x.Cores[i].Code)
				_ = append(x.Cores[i].Code, api.Instr{Kind: 7})
				if fmt.Sprint(x.Memory, slices.Delete(slices.Clone(x.Cores), i, i+1)) != rest {
					t.Error("two lists are one")
				}
			}
			_, _ = append(x.Cores, api.Core{}), append(x.Memory, 1)
			clear(x.Cores)
			clear(x.Memory)
		}
		for _, i := range []api.Instr{{Kind: api.InstrOp, Op: api.OpAdd, A: 1, B: 1}, {Kind: api.InstrZero, A: 1, To: 1}} {
			for _, l := range [][]int{target.Reads(i), target.Follows(i, 0)} {
				clear(l)
				_ = append(l, 7)
			}
		}
		if answers(o) != want || told(o) != s {
			t.Error("an object, or an answer, is changed")
		}
	}
}

// P3, P4: the same answers at each time, and to many that ask at one time; no goroutine is left.
func TestAlways(t *testing.T) {
	before := runtime.NumGoroutine()
	r := rand.New(rand.NewPCG(16, 1))
	for range 40 {
		o := anyObject(r)
		want := answers(o)
		done := make(chan string)
		for range 6 {
			go func() { done <- answers(o) }()
		}
		for range 6 {
			if <-done != want {
				t.Error("two answers to one question")
			}
		}
	}
	for range 1000 {
		if runtime.NumGoroutine() <= before {
			return
		}
		time.Sleep(time.Millisecond)
	}
	t.Error("goroutines are left")
}

// P1: the greatest object, of the longest lines.
func TestGreat(t *testing.T) {
	o := api.Object{Memory: slices.Repeat([]int64{-1 << 63}, api.MaxMemory), Shared: api.MaxShared, Locks: api.MaxLocks, Buffer: api.MaxBuffer}
	for n := range api.MaxThreads {
		long := api.Instr{Kind: api.InstrSet, D: 15, Word: -1 << 63, From: api.MaxNodes}
		code := slices.Repeat([]api.Instr{long}, api.MaxCode)
		code[api.MaxCode-1] = api.Instr{Kind: api.InstrJump, To: api.MaxCode - 1, From: api.MaxNodes}
		o.Cores = append(o.Cores, api.Core{Name: strings.Repeat("n", api.MaxName-1) + fmt.Sprint(n), Code: code})
	}
	there(t, o)
}
