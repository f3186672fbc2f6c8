package target_test

import (
	"math"
	"slices"
	"strings"
	"testing"

	"stile/api"
	"stile/target"
)

// parsed holds that a text is refused so, with nothing beside.
func parsed(t *testing.T, s string, why api.Errno, at int) {
	t.Helper()
	o, got, place := target.Parse(s)
	if got != why || place != at || !target.Same(o, api.Object{}) {
		t.Errorf("Parse(%.300q) = %v, error %d at %d, not %d at %d", s, o, got, place, why, at)
	}
}

// 16.3: heads that are not as they must be, whatever stands behind them.
func TestParseHead(t *testing.T) {
	parsed(t, "", api.ErrText, 0)
	parsed(t, "object 0 0 1", api.ErrText, 0)
	parsed(t, "object 0 0 1\n", api.ErrText, 13)
	parsed(t, "object 0 0 1\nmemory", api.ErrText, 13)
	parsed(t, "object 0 0 1\nmemory\nhalt\n", api.ErrText, 20)
	parsed(t, "object 0 0 0\nmemory\n", api.ErrObject, 0)
	parsed(t, "object 0 00 1\nmemory\n", api.ErrText, 0)
	for _, head := range []string{
		"", "\n", "object\n", "object 0 0\n", "object 0 0 1 2\n", "object 0 0 1 \n", " object 0 0 1\n", "object  0 0 1\n", "object 0 0 1\r\n",
		"Object 0 0 1\n", "objects 0 0 1\n", "object 0 0 01\n", "object -1 0 1\n", "object -0 0 1\n", "object +1 0 1\n", "object 0 x 1\n", "object 0  1\n",
		"object 0 0 9223372036854775808\n", "object 99999999999999999999 0 1\n", "object\t0 0 1\n", "object 0 0 1\x00\n", "memory\n", "object 0\n0 1\n",
	} {
		parsed(t, head, api.ErrText, 0)
		parsed(t, head+"memory\ncore a\nhalt\n", api.ErrText, 0)
	}
	for _, line := range []string{
		"", "memory", "\n", "memory \n", " memory\n", "memory  5\n", "memory 5 \n", "memory 05\n", "memory -0\n", "memory +5\n", "memory 5,6\n", "memory x\n", "memory 0x1\n",
		"memory 9223372036854775808\n", "memory -9223372036854775809\n", "memory 1 2 3 4 5 6 007\n", "Memory\n", "memory5\n", "object 0 0 1\n", "core a\n", "memory\r\n",
	} {
		parsed(t, "object 0 0 1\n"+line, api.ErrText, 13)
		parsed(t, "object 9 9 9\n"+line+"core a\n", api.ErrText, 13)
	}
}

// 16.3: lines of cores and instructions that are not as they must be.
func TestParseLines(t *testing.T) {
	const ahead = "object 0 0 1\nmemory 7\ncore a\nhalt\n"
	for _, line := range []string{
		"halt", "\n", " \n", "core\n", "core b c\n", "core b \n", "core  b\n", " core b\n", "Core b\n", "cores b\n", "memory\n", "object 0 0 1\n", "halt\r\n", "core a",
		" halt\n", "halt \n", "halt 0\n", "halt @0\n", "halt @\n", "halt @x\n", "halt @01\n", "halt @-1\n", "halt @1 \n", "halt @1 @1\n", "halt  @1\n", "halt 1\n", "halt@1\n", "halt r0\n", "halt @9223372036854775808\n", "halt @ 1\n",
		"set\n", "set r0\n", "set r0 \n", "set r0 05\n", "set r0 -0\n", "set r0 +1\n", "set r0 r1\n", "set 0 1\n", "set R0 1\n", "set r 1\n", "set r00 1\n", "set r-1 1\n", "set r01 1\n", "set rr0 1\n", "set r0 1 2\n", "set r0 9223372036854775808\n", "set r0 -9223372036854775809\n", "set 5 r0\n",
		"set r9223372036854775808 1\n", "set r0  1\n", "set r0 1@1\n", "set r0 @1\n",
		"add r0 r1\n", "add r0 r1 r2 r3\n", "add r0 r1 2\n", "add r0 1 r2\n", "minus r0\n", "minus r0 r1 r2\n", "not r0 r1 r0\n", "not 0 r1\n", "+ r0 r1 r2\n", "op r0 r1 r2\n", "ADD r0 r1 r2\n", "add\n", " add r0 r1 r2\n", "neg r0 r1\n",
		"load r0\n", "load r0 -1\n", "load r0 r1\n", "load 0 r0\n", "load r0 00\n", "load r0 0 0\n", "store 0 r0\n", "store r0\n", "store r0 -5\n", "swap r0\n", "swap r0 9223372036854775808\n",
		"fence 0\n", "fence r0\n", "fence @0\n", "print\n", "print 0\n", "print r0 r0\n", "jump\n", "jump r0\n", "jump -1\n", "jump 01\n", "jump 1 2\n", "zero r0\n", "zero 0 r0\n", "zero r0 r1\n", "zero r0 1 1\n",
		"nop\n", "\xff\n", "halt\x00\n", "set r0 1 @1 2\n",
	} {
		parsed(t, ahead+line, api.ErrText, len(ahead))
		parsed(t, ahead+line+"core ?\nadd\n", api.ErrText, len(ahead))
		parsed(t, ahead+"core 7\nset r99 1\n"+line, api.ErrText, len(ahead)+len("core 7\nset r99 1\n"))
	}
	for _, line := range []string{"halt\n", "set r0 1\n", "jump 0\n", "core\n", "\n", "core a b\n", "memory\n"} {
		parsed(t, "object 0 0 1\nmemory\n"+line+"core a\nhalt\n", api.ErrText, 20)
	}
}

// 16.3: lines that are all as they must be, but say what is no right object.
func TestParseObject(t *testing.T) {
	for _, s := range []string{
		"object 0 0 17\nmemory\n", "object 65 0 1\nmemory\n", "object 1 0 1\nmemory\n", "object 1 1 1\nmemory 5\n", "object 9223372036854775807 9223372036854775807 1\nmemory\n",
		"object 0 0 9223372036854775807\nmemory\n", "object 0 17 1\nmemory" + strings.Repeat(" 0", 17) + "\n", "object 0 0 1\nmemory" + strings.Repeat(" -1", api.MaxMemory+1) + "\n",
		"object 0 0 1\nmemory\n" + strings.Repeat("core a\nhalt\n", 2), "object 0 0 1\nmemory\ncore a\n", "object 0 0 1\nmemory\ncore a\ncore b\nhalt\n", "object 0 0 1\nmemory\ncore a\nhalt\ncore b\n",
		"object 0 0 1\nmemory\ncore a\n" + strings.Repeat("halt\n", api.MaxCode+1),
		"object 0 0 1\nmemory\n" + strings.Join([]string{"", "0", "1", "2", "3", "4", "5", "6", "7", "8"}, "\nhalt\ncore a")[len("\nhalt\n"):] + "\nhalt\n",
	} {
		parsed(t, s, api.ErrObject, 0)
	}
	for _, name := range []string{"", "9", "if", "a.b", "\x00", "\xff", "\r", "\t", "é", "core@1", strings.Repeat("n", 33), strings.Repeat("n", 5000)} {
		parsed(t, "object 0 0 1\nmemory\ncore "+name+"\nhalt\n", api.ErrObject, 0)
	}
	for _, line := range []string{
		"set r16 1", "set r9223372036854775807 1", "add r16 r0 r0", "add r0 r16 r0", "add r0 r0 r16", "not r0 r16", "load r16 0", "load r0 2", "load r0 9223372036854775807", "store r16 0", "store r0 2",
		"swap r16 0", "swap r0 2", "print r16", "jump 2", "jump 9223372036854775807", "zero r16 0", "zero r0 2", "fence @4097", "halt @9223372036854775807", "set r0 1 @5000",
	} {
		parsed(t, "object 1 1 1\nmemory 0 0\ncore a\n"+line+"\nhalt\n", api.ErrObject, 0)
		// A later line that is not as it must be comes first.
		parsed(t, "object 1 1 1\nmemory 0 0\ncore a\n"+line+"\nhalt \n", api.ErrText, len("object 1 1 1\nmemory 0 0\ncore a\n"+line+"\n"))
	}
	for _, line := range []string{"set r0 1", "fence", "print r0", "zero r0 0", "load r0 0"} {
		parsed(t, "object 1 1 1\nmemory 0 0\ncore a\nhalt\n"+line+"\n", api.ErrObject, 0)
	}
}

// 16.3: texts that are as long as may be, and longer.
func TestParseLong(t *testing.T) {
	const head = "object 0 0 1\nmemory\ncore a\n"
	long := head + strings.Repeat("halt\n", (api.MaxList-len(head))/5+1)
	parsed(t, long, api.ErrLong, 0)
	parsed(t, strings.Repeat("x", api.MaxList+1), api.ErrLong, 0)
	parsed(t, strings.Repeat("\n", api.MaxList+1), api.ErrLong, 0)
	parsed(t, strings.Repeat("x", api.MaxList), api.ErrText, 0)
	parsed(t, long[:api.MaxList], api.ErrText, api.MaxList-(api.MaxList-len(head))%5)
	parsed(t, long[:api.MaxList-(api.MaxList-len(head))%5], api.ErrObject, 0)
	parsed(t, "object 0 0 1\nmemory"+strings.Repeat(" 0", 1<<22)+"\n", api.ErrObject, 0)
	parsed(t, "object 0 0 1\nmemory\n"+strings.Repeat("core \n", 1<<21), api.ErrObject, 0)
}

// decoded holds that bytes are none of an object, with nothing beside.
func decoded(t *testing.T, b ...byte) {
	t.Helper()
	if o, why := target.Decode(b); why != api.ErrBytes || !target.Same(o, api.Object{}) {
		t.Errorf("Decode(%.300x) = %v, error %d", b, o, why)
	}
}

// 16.4, 16.7: bytes that are cut, or too many, or not an object's.
func TestDecodeFaults(t *testing.T) {
	whole := someBytes()
	for n := range whole {
		decoded(t, whole[:n]...)
	}
	for n := range 256 {
		decoded(t, slices.Concat(whole, []byte{byte(n)})...)
		decoded(t, slices.Concat([]byte{byte(n)}, whole)...)
	}
	decoded(t)
	object := func(l ...byte) []byte { return append([]byte("stil"), l...) }
	instr := func(l ...byte) []byte {
		return slices.Concat(object(1, 0, 1, 1, 0, 1, 1, 'a', 2), l, []byte{10, 0})
	}
	if o, why := target.Decode(instr(1, 0, 1, 0)); why != api.OK || o.Cores[0].Code[0].Word != -1 {
		t.Error(o, why)
	}
	for _, b := range [][]byte{
		[]byte("stil"), []byte("stile"), []byte("STIL"), object(0), object(0, 0), object(0, 0, 1), object(0, 0, 1, 0),
		// What is said is not right.
		object(0, 0, 0, 0, 0), object(0, 0, 17, 0, 0), object(65, 0, 1, 0, 0), object(1, 0, 1, 0, 0), object(0, 1, 1, 0, 0), object(0, 17, 1, 0, 0),
		object(0, 0, 1, 0, 1), object(0, 0, 1, 0, 1, 0, 1, 10, 0), object(0, 0, 1, 0, 1, 1, '9', 1, 10, 0), object(0, 0, 1, 0, 1, 1, 'a', 0), object(0, 0, 1, 0, 2, 1, 'a', 1, 10, 0, 1, 'a', 1, 10, 0),
		object(0, 0, 1, 0, 9), object(0, 0, 1, 0, 1, 2, 'i', 'f', 1, 10, 0), object(0, 0, 1, 0, 1, 1, 'a', 1, 6, 0),
		// Needless bytes.
		object(0x80, 0, 0, 1, 0, 0), object(0, 0, 0x81, 0, 0, 0), object(0, 0, 1, 0x80, 0, 0), object(0, 0, 1, 0, 0x80, 0), object(0, 0, 1, 0x80, 0x80, 0, 0),
		instr(0x81, 0, 0, 1, 0), instr(1, 0x80, 0, 1, 0), instr(1, 0, 0x81, 0, 0), instr(1, 0, 1, 0x80, 0), instr(2, 0x81, 0, 0, 0, 0, 0),
		// Fields.
		instr(0, 0), instr(11, 0), instr(0x81, 2, 0, 1, 0), instr(0x80, 2, 0), instr(1, 16, 1, 0), instr(1, 0, 1, 0x81, 0x20), instr(3, 0, 1, 0), instr(4, 16, 0, 0), instr(5, 0, 1, 0), instr(7, 16, 0), instr(8, 2, 0), instr(9, 0, 2, 0), instr(9, 16, 0, 0),
		instr(2, 0, 0, 0, 0, 0), instr(2, 19, 0, 0, 0), instr(2, 19, 0, 0, 0, 0), instr(2, 0x81, 2, 0, 0, 0, 0), instr(2, 18, 0, 0, 0, 0), instr(2, 1, 0, 0, 0), instr(2, 1, 0, 0, 16, 0), instr(2, 1, 0, 16, 0, 0), instr(2, 1, 16, 0, 0, 0),
	} {
		decoded(t, b...)
	}
}

// 16.4: numbers of as many bits as there are, and more.
func TestDecodeNumbers(t *testing.T) {
	word := func(l ...byte) []byte { return slices.Concat([]byte("stil"), []byte{0, 0, 1, 1}, l, []byte{0}) }
	full := slices.Repeat([]byte{0xff}, 9)
	for _, x := range []struct {
		b    []byte
		want int64
	}{
		{word(0), 0}, {word(1), -1}, {word(2), 1}, {word(3), -2}, {word(126), 63}, {word(127), -64}, {word(0x80, 1), 64}, {word(0x81, 1), -65},
		{word(slices.Concat(full, []byte{1})...), math.MinInt64}, {word(append(slices.Concat([]byte{0xfe}, full[1:]), 1)...), math.MaxInt64},
	} {
		o, why := target.Decode(x.b)
		if why != api.OK || o.Memory[0] != x.want {
			t.Errorf("Decode(%x) = %v, error %d", x.b, o, why)
			continue
		}
		if b, why := target.Encode(o); why != api.OK || !slices.Equal(b, x.b) {
			t.Errorf("Encode = %x, error %d, not %x", b, why, x.b)
		}
	}
	decoded(t, word(append(slices.Clone(full), 2)...)...)
	decoded(t, word(append(slices.Clone(full), 3)...)...)
	decoded(t, word(append(slices.Clone(full), 0x7f)...)...)
	decoded(t, word(append(slices.Clone(full), 0x81, 0)...)...)
	decoded(t, word(append(slices.Clone(full), 0x81, 1)...)...)
	decoded(t, word(append(slices.Clone(full), 0x80, 1)...)...)
	decoded(t, word(append(slices.Repeat([]byte{0x80}, 9), 0)...)...)
	decoded(t, word(slices.Repeat([]byte{0xff}, 1000)...)...)
	decoded(t, word(slices.Repeat([]byte{0x80}, 1000)...)...)
	// Of a number that is no word: as many bits as an int has.
	for _, last := range [][]byte{{0x7f}, {0xff, 1}, {0x80, 1}} {
		n := append(slices.Repeat([]byte{0xff}, 8), last...)
		for at := range 5 {
			l := [][]byte{{0}, {0}, {1}, {0}, {0}}
			l[at] = n
			decoded(t, slices.Concat(append([][]byte{[]byte("stil")}, l...)...)...)
		}
		for at := range 5 {
			l := [][]byte{{4}, {0}, {0}, {0}}
			i := []byte{1, 'a', 2}
			if at < 4 {
				l[at] = n
				i = slices.Concat(i, slices.Concat(l...))
			} else {
				i = append(append([]byte{1, 'a'}, n...), 10, 0)
			}
			decoded(t, slices.Concat([]byte("stil"), []byte{1, 0, 1, 1, 0, 1}, i, []byte{10, 0})...)
		}
	}
	decoded(t, append([]byte("stil"), make([]byte, api.MaxBytes)...)...)
	decoded(t, slices.Repeat([]byte{0xff}, api.MaxBytes+1)...)
}
