package asm

import (
	"fmt"
	"math"
	"math/big"
	"regexp"
	"slices"
	"strconv"
	"strings"
	"testing"

	"turnbuckle/api"
	"turnbuckle/inst"
	"turnbuckle/le"
)

// wantBytes: a text must be assembled to these.
func wantBytes(t *testing.T, s, want string) {
	t.Helper()
	if b, n, e := Assemble(s); b != want || n != 0 || e != api.OK {
		t.Errorf("Assemble(%q): %x %d %d, not %x", short(s), b, n, e, want)
	}
}

// wantWrong: this line of a text must be wrong, so.
func wantWrong(t *testing.T, s string, line int, want api.Errno) {
	t.Helper()
	if b, n, e := Assemble(s); b != "" || n != line || e != want {
		t.Errorf("Assemble(%q): %x %d %d, not %d %d", short(s), b, n, e, line, want)
	}
	names, places, e := Labels(s)
	switch want {
	case api.ErrName, api.ErrCode: // the second pass's alone
		if e != api.OK {
			t.Errorf("Labels(%q): %d", short(s), e)
		}
	default:
		if len(names) != 0 || len(places) != 0 || e != want {
			t.Errorf("Labels(%q): %v %v %d, not %d", short(s), names, places, e, want)
		}
	}
}

// wantSyntax: a line is none, at whatever place it stands.
func wantSyntax(t *testing.T, line string) {
	t.Helper()
	wantWrong(t, line+"\n", 1, api.ErrSyntax)
	wantWrong(t, "a:\necall\n"+line+"\necall\n", 3, api.ErrSyntax)
}

// short: a text's beginning, for what a test tells.
func short(s string) string { return s[:min(len(s), 200)] }

// words: the bytes of words of 32 bits.
func words(l ...uint32) string {
	s := ""
	for _, w := range l {
		s += le.Put(uint64(w), 4)
	}
	return s
}

// P8.1: the chapter's example.
func TestExample(t *testing.T) {
	wantBytes(t, "loop:\naddi x10 x10 -1\nbne x10 x0 loop\n", words(0xfff50513, 0xfe051ee3))
}

// P8.1.
func TestAssembleNothing(t *testing.T) {
	wantBytes(t, "", "")
	wantBytes(t, "a:\n", "")
	wantBytes(t, "a:\nb:\nc:\n", "")
}

// lines of all kinds, and their words.
const lines = `lui x31 -4096
auipc x1 2147479552
jal x1 -1048576
jal x0 1048574
jalr x0 x1 0
beq x1 x2 4094
bne x1 x2 -4096
blt x3 x4 8
bge x5 x6 8
bltu x7 x8 8
bgeu x9 x10 8
lb x1 x2 -2048
lh x1 x2 2047
lw x1 x2 0
ld x1 x2 1
lbu x1 x2 2
lhu x1 x2 3
lwu x1 x2 4
sb x2 x1 -1
sh x2 x1 2047
sw x2 x1 -2048
sd x2 x1 8
addi x10 x0 5
slti x1 x2 -1
sltiu x1 x2 1
xori x1 x2 -1
ori x1 x2 7
andi x1 x2 255
slli x10 x10 63
srli x10 x10 0
srai x10 x10 63
addiw x1 x2 -1
slliw x10 x10 31
srliw x10 x10 0
sraiw x10 x10 31
add x1 x2 x3
sub x10 x10 x11
sll x1 x2 x3
slt x1 x2 x3
sltu x1 x2 x3
xor x1 x2 x3
srl x1 x2 x3
sra x1 x2 x3
or x1 x2 x3
and x1 x2 x3
mul x1 x2 x3
mulh x1 x2 x3
mulhsu x1 x2 x3
mulhu x1 x2 x3
div x1 x2 x3
divu x1 x2 x3
rem x1 x2 x3
remu x31 x30 x29
addw x1 x2 x3
subw x1 x2 x3
sllw x1 x2 x3
srlw x1 x2 x3
sraw x1 x2 x3
mulw x1 x2 x3
divw x1 x2 x3
divuw x1 x2 x3
remw x1 x2 x3
remuw x1 x2 x3
ecall
ebreak
`

var wordsOfLines = []uint32{
	0xffffffb7, 0x7ffff097, 0x800000ef, 0x7ffff06f, 0x00008067,
	0x7e208fe3, 0x80209063, 0x0041c463, 0x0062d463, 0x0083e463, 0x00a4f463,
	0x80010083, 0x7ff11083, 0x00012083, 0x00113083, 0x00214083, 0x00315083, 0x00416083,
	0xfe110fa3, 0x7e111fa3, 0x80112023, 0x00113423,
	0x00500513, 0xfff12093, 0x00113093, 0xfff14093, 0x00716093, 0x0ff17093,
	0x03f51513, 0x00055513, 0x43f55513,
	0xfff1009b, 0x01f5151b, 0x0005551b, 0x41f5551b,
	0x003100b3, 0x40b50533, 0x003110b3, 0x003120b3, 0x003130b3, 0x003140b3, 0x003150b3, 0x403150b3, 0x003160b3, 0x003170b3,
	0x023100b3, 0x023110b3, 0x023120b3, 0x023130b3, 0x023140b3, 0x023150b3, 0x023160b3, 0x03df7fb3,
	0x003100bb, 0x403100bb, 0x003110bb, 0x003150bb, 0x403150bb, 0x023100bb, 0x023140bb, 0x023150bb, 0x023160bb, 0x023170bb,
	0x00000073, 0x00100073,
}

// P8.1, P8.2.
func TestAllKinds(t *testing.T) {
	for o := inst.Op(0); o < inst.Ops; o++ {
		if !strings.Contains("\n"+strings.ReplaceAll(lines, "\n", " \n"), "\n"+o.Name()+" ") {
			t.Errorf("%s isn't among the lines", o.Name())
		}
	}
	wantBytes(t, lines, words(wordsOfLines...))
	if s := Text(words(wordsOfLines...)); s != lines {
		t.Errorf("Text: %s", s)
	}
}

// P8.1: names forward, backward, and of the instruction itself.
func TestNames(t *testing.T) {
	wantBytes(t, "jal x1 b\na:\necall\nb:\nc:\nbeq x1 x2 a\njal x0 c\nself:\nbne x1 x2 self\nbne x1 x2 end\nend:\n",
		words(0x008000ef, 0x00000073, 0xfe208ee3, 0xffdff06f, 0x00209063, 0x00209263))
	wantBytes(t, "a:\nquad 1\nquad 2\njal x0 a\n", le.Put(1, 8)+le.Put(2, 8)+words(0xff1ff06f))
	wantBytes(t, "jal x0 a\nquad 1\na:\nquad 2\n", words(0x00c0006f)+le.Put(1, 8)+le.Put(2, 8))
	for _, name := range []string{"a", "z", "a0", "z9", "x1", "x10", "quad", "word", "add", "ecall", "abcdefghijklmnop", "a123456789012345"} {
		wantBytes(t, name+":\nblt x1 x2 "+name+"\njal x3 "+name+"\n", words(0x0020c063, 0xffdff1ef))
	}
}

// P8.1: names that are none.
func TestNoNames(t *testing.T) {
	for _, name := range []string{
		"", " ", "A", "Aa", "aA", "0a", "9a", "a_b", "a.b", "_a", "a-b", "-a", "a b", " a", "a ", "a\t", "a\r", "a\x00", "\xff", "a\xff",
		"é", "aé", "`", "{", "a`", "a{", "a/", "abcdefghijklmnopq", "a1234567890123456", strings.Repeat("a", 1000), ":", "a:", ":a", "a:b",
	} {
		wantSyntax(t, name+":")
		wantSyntax(t, "jal x1 "+name)
		wantSyntax(t, "beq x1 x2 "+name)
	}
	wantSyntax(t, "0:")
	wantSyntax(t, "-1:")
	wantSyntax(t, "a")
	wantSyntax(t, "a: ecall")
	wantSyntax(t, "a:ecall")
	wantSyntax(t, "ecall:a")
	wantSyntax(t, "jal x1 a:")
}

// P8.1: a name stands in the place of Imm of the forms B and J alone.
func TestNamesElsewhere(t *testing.T) {
	for o := inst.Op(0); o < inst.Ops; o++ {
		line := o.Name() + " " + map[byte]string{
			'U': "x1 a", 'J': "x1 a", 'I': "x1 x2 a", 'H': "x1 x2 a", 'K': "x1 x2 a", 'B': "x1 x2 a", 'S': "x1 x2 a", 'R': "x1 x2 a", 'N': "a",
		}[o.Form()]
		if o.Form() == 'B' || o.Form() == 'J' {
			if b, n, e := Assemble("a:\n" + line + "\n"); len(b) != 4 || n != 0 || e != api.OK {
				t.Errorf("%q: %x %d %d", line, b, n, e)
			}
			continue
		}
		wantSyntax(t, line)
	}
	wantSyntax(t, "quad a")
	wantSyntax(t, "jal a 0")
	wantSyntax(t, "beq a x1 0")
	wantSyntax(t, "beq x1 a 0")
}

// P8.1.
func TestQuad(t *testing.T) {
	for s, n := range map[string]uint64{
		"0": 0, "1": 1, "258": 258, "10": 10, "100": 100, "-1": math.MaxUint64, "-258": math.MaxUint64 - 257,
		"9223372036854775807": 1<<63 - 1, "9223372036854775808": 1 << 63, "18446744073709551615": math.MaxUint64,
		"-9223372036854775807": 1<<63 + 1, "-9223372036854775808": 1 << 63,
	} {
		wantBytes(t, "quad "+s+"\n", le.Put(n, 8))
	}
	for _, s := range noNumbers {
		wantSyntax(t, "quad "+s)
	}
	for _, s := range []string{
		"18446744073709551616", "-9223372036854775809", "-18446744073709551615", "100000000000000000000", strings.Repeat("9", 5000),
	} {
		wantSyntax(t, "quad "+s)
	}
	wantSyntax(t, "quad")
	wantSyntax(t, "quad 1 2")
	wantSyntax(t, "quad x1")
	wantSyntax(t, "Quad 1")
	wantSyntax(t, "quads 1")
}

// noNumbers: texts that look like numbers.
var noNumbers = []string{
	"", "-", "--1", "+1", "-0", "00", "01", "-01", "000", "0x1", "0x0", "0b1", "0o7", "1_000", "1.0", "1e3", "1a", "1 ", " 1", "1\t", "1\r", "1\x00",
	"1-", "-1-", "\xff", "٣", "1:", "'a'",
}

// P8.1.
func TestNumbers(t *testing.T) {
	for _, s := range append([]string{
		"9223372036854775808", "18446744073709551615", "18446744073709551616", "-9223372036854775809", "36893488147419103233", strings.Repeat("1", 5000),
	}, noNumbers...) {
		wantSyntax(t, "addi x1 x2 "+s)
		wantSyntax(t, "lui x1 "+s)
		wantSyntax(t, "slli x1 x2 "+s)
		wantSyntax(t, "sraiw x1 x2 "+s)
		wantSyntax(t, "sd x1 x2 "+s)
		wantSyntax(t, "beq x1 x2 "+s)
		wantSyntax(t, "jal x1 "+s)
	}
}

// P8.1.
func TestRegisters(t *testing.T) {
	for n := range uint32(32) {
		wantBytes(t, fmt.Sprintf("add x%d x0 x0\nadd x0 x%d x0\nadd x0 x0 x%d\n", n, n, n), words(0x33|n<<7, 0x33|n<<15, 0x33|n<<20))
		wantBytes(t, fmt.Sprintf("lui x%d 0\nbeq x%d x0 0\nbeq x0 x%d 0\n", n, n, n), words(0x37|n<<7, 0x63|n<<15, 0x63|n<<20))
	}
	for _, r := range []string{
		"", "x", "x32", "x33", "x100", "x-1", "x-0", "x+1", "x00", "x01", "x010", "x 1", "X1", "1", "y1", "xx1", "x1x", "x1 ", "x0x1", "x1,", "a0", "zero",
		"x18446744073709551616", "x18446744073709551617", "x4294967297", "\xff",
	} {
		wantSyntax(t, "add "+r+" x1 x1")
		wantSyntax(t, "add x1 "+r+" x1")
		wantSyntax(t, "add x1 x1 "+r)
		wantSyntax(t, "jal "+r+" 0")
		wantSyntax(t, "sd "+r+" x1 0")
		wantSyntax(t, "sd x1 "+r+" 0")
	}
}

// P8.1: lines that are none.
func TestSyntax(t *testing.T) {
	for _, line := range []string{
		"", " ", "\t", "\r", "\x00", "\xff", "#", ";", "nop", "subi x1 x2 1", "Ecall", "ECALL", "ecall\r", "ecall ", " ecall", "ecall  ", "ecall 1", "ecall x0",
		"ebreak 0", "add", "add ", "add x1", "add x1 x2", "add x1 x2 ", "add x1 x2 x3 ", "add x1 x2 x3 x4", "add x1 x2 x3 x4 x5", "add  x1 x2 x3",
		"add x1  x2 x3", "add x1 x2  x3", " add x1 x2 x3", "add\tx1 x2 x3", "add x1,x2,x3", "add x1 x2 3", "addi x1 x2", "addi x1 x2 x3", "addi x1 2 3",
		"addi x1 x2 3 4", "lui x1", "lui x1 x2", "lui x1 1 2", "lui x1 x2 4096", "jal", "jal x1", "jal 0", "jal x1 x2 0", "ld x1 8 x2", "ld x1 x2", "sd x1 x2",
		"beq x1 x2", "beq x1 0", "beq x1 x2 0 0", "word 0x00000000", "word 0", "jalr x1", "jalr x1 x2", "quad\t1", "quad  1", "quad 1 ", " quad 1",
		strings.Repeat(" ", 1000), strings.Repeat("x1 ", 1000),
	} {
		wantSyntax(t, line)
	}
}

// P8.1: each line has a newline behind.
func TestNewline(t *testing.T) {
	wantWrong(t, "ecall", 1, api.ErrSyntax)
	wantWrong(t, "a:", 1, api.ErrSyntax)
	wantWrong(t, "quad 1", 1, api.ErrSyntax)
	wantWrong(t, "ecall\necall\necall", 3, api.ErrSyntax)
	wantWrong(t, "\n", 1, api.ErrSyntax)
	wantWrong(t, "ecall\n\n", 2, api.ErrSyntax)
	wantWrong(t, "ecall\n\necall\n", 2, api.ErrSyntax)
	wantWrong(t, "ecall\r\n", 1, api.ErrSyntax)
	wantWrong(t, "ecall\recall\n", 1, api.ErrSyntax)
	wantWrong(t, "ecall\necall\nx", 3, api.ErrSyntax)
	wantWrong(t, "a:\na:", 2, api.ErrSyntax)
	wantWrong(t, "jal x1 none\necall", 2, api.ErrSyntax)
}

// P8.1: a name twice.
func TestDouble(t *testing.T) {
	wantWrong(t, "a:\na:\n", 2, api.ErrDouble)
	wantWrong(t, "a:\necall\nb:\necall\na:\nb:\n", 5, api.ErrDouble)
	wantWrong(t, "a:\nb:\nb:\na:\nwrong\n", 3, api.ErrDouble)
	wantWrong(t, "a:\nwrong\na:\n", 2, api.ErrSyntax)
	wantBytes(t, "a:\naa:\nb:\na1:\n", "")
}

// P8.1: no more than MaxFile bytes.
func TestLimit(t *testing.T) {
	const mostWords, mostQuads = api.MaxFile / 4, api.MaxFile / 8
	full := strings.Repeat("ecall\n", mostWords)
	wantBytes(t, full, strings.Repeat(words(0x73), mostWords))
	wantBytes(t, full+"a:\nb:\n", strings.Repeat(words(0x73), mostWords))
	wantWrong(t, full+"ecall\n", mostWords+1, api.ErrLimit)
	wantWrong(t, full+"a:\necall\nwrong\n", mostWords+2, api.ErrLimit)
	wantWrong(t, full+"a:\na:\necall\n", mostWords+2, api.ErrDouble)
	wantWrong(t, full+"ecall", mostWords+1, api.ErrSyntax)
	wantWrong(t, full+"wrong\necall\n", mostWords+1, api.ErrSyntax)
	wantWrong(t, full+"quad 1\n", mostWords+1, api.ErrLimit)
	wantWrong(t, "jal x0 none\n"+full, mostWords+1, api.ErrLimit)
	quads := strings.Repeat("quad 1\n", mostQuads-1)
	wantBytes(t, quads+"quad 1\n", strings.Repeat(le.Put(1, 8), mostQuads))
	wantBytes(t, quads+"ecall\necall\n", strings.Repeat(le.Put(1, 8), mostQuads-1)+words(0x73, 0x73))
	wantWrong(t, quads+"ecall\nquad 1\n", mostQuads+1, api.ErrLimit)
	names, places, e := Labels(full + "a:\n")
	if !slices.Equal(names, []string{"a"}) || !slices.Equal(places, []int{api.MaxFile}) || e != api.OK {
		t.Error(names, places, e)
	}
}

// P8.1: the second pass, behind the first one.
func TestSecondPass(t *testing.T) {
	wantWrong(t, "ecall\njal x1 a\n", 2, api.ErrName)
	wantWrong(t, "b:\njal x1 b\nbeq x1 x2 aa\n", 3, api.ErrName)
	wantWrong(t, "addi x1 x2 2048\njal x1 a\n", 1, api.ErrCode)
	wantWrong(t, "jal x1 a\naddi x1 x2 2048\n", 1, api.ErrName)
	wantWrong(t, "jal x1 a\nwrong\n", 2, api.ErrSyntax)
	wantWrong(t, "addi x1 x2 2048\na:\na:\n", 3, api.ErrDouble)
	wantWrong(t, "a:\nb:\nquad 1\njal x1 1\n", 4, api.ErrCode)
}

// P8.1: instructions that go into no word.
func TestCode(t *testing.T) {
	for _, line := range []string{
		"addi x1 x2 2048", "addi x1 x2 -2049", "addi x1 x2 4096", "addi x1 x2 4294967296", "addi x1 x2 9223372036854775807",
		"addi x1 x2 -9223372036854775808", "lui x1 1", "lui x1 4095", "lui x1 2147483648", "lui x1 -2147487744", "auipc x1 -1",
		"jal x1 1", "jal x1 1048576", "jal x1 -1048578", "beq x1 x2 3", "beq x1 x2 4096", "beq x1 x2 -4098", "sd x1 x2 2048", "sb x1 x2 -2049",
		"slli x1 x2 64", "slli x1 x2 -1", "srai x1 x2 1024", "slliw x1 x2 32", "sraiw x1 x2 -1", "jalr x1 x2 2048", "ld x1 x2 -2049",
	} {
		wantWrong(t, "ecall\na:\n"+line+"\n", 3, api.ErrCode)
	}
}

// P8.1: names that are too far for a branch.
func TestFar(t *testing.T) {
	between := func(n int) string { return strings.Repeat("ecall\n", n) }
	for _, c := range []struct {
		s    string
		line int
	}{
		{"beq x1 x2 a\n" + between(1022) + "a:\n", 0},
		{"beq x1 x2 a\n" + between(1023) + "a:\n", 1},
		{"a:\n" + between(1024) + "beq x1 x2 a\n", 0},
		{"a:\n" + between(1025) + "beq x1 x2 a\n", 1027},
		{"jal x1 a\n" + between(16383) + "a:\n", 0},
		{"a:\n" + between(16383) + "jal x1 a\n", 0},
	} {
		if c.line != 0 {
			wantWrong(t, c.s, c.line, api.ErrCode)
		} else if b, n, e := Assemble(c.s); len(b) != 4*(strings.Count(c.s, "\n")-1) || n != 0 || e != api.OK {
			t.Errorf("%q: %d bytes, %d %d", short(c.s), len(b), n, e)
		}
	}
}

// P8.2.
func TestText(t *testing.T) {
	for _, c := range []struct{ b, want string }{
		{"", ""},
		{"\x73", ""},
		{"\x73\x00\x00", ""},
		{"\x73\x00\x00\x00", "ecall\n"},
		{"\x73\x00\x00\x00\x13", "ecall\n"},
		{"\x73\x00\x00\x00\x13\x05\x50", "ecall\n"},
		{"\x73\x00\x00\x00\x13\x05\x50\x00", "ecall\naddi x10 x0 5\n"},
		{"\x00\x00\x00\x00", "word 0x00000000\n"},
		{"\x01\x00\x00\x00", "word 0x00000001\n"},
		{"\xff\xff\xff\xff", "word 0xffffffff\n"},
		{"\x00\xbc\x0a\x0f", "word 0x0f0abc00\n"},
		{"\x63\x20\x00\x80" + words(0xfe208ee3), "word 0x80002063\nbeq x1 x2 -4\n"},
		{le.Put(258, 8), "word 0x00000102\nword 0x00000000\n"},
	} {
		if s := Text(c.b); s != c.want {
			t.Errorf("Text(%x): %q, not %q", c.b, s, c.want)
		}
	}
}

// P8.1, P8.2: what Text tells of an instruction is assembled to it again.
func TestTextAndBack(t *testing.T) {
	for o := inst.Op(0); o < inst.Ops; o++ {
		base, _ := inst.Encode(inst.Inst{Op: o})
		for i := range 32 {
			for j := range 32 {
				wantBack(t, base^1<<i^1<<j)
				wantBack(t, base|0xfffff000<<i^1<<j)
			}
		}
	}
}

// wantBack: a word's line is the instruction that it is, by the rows of the forms; or it is none's.
func wantBack(t *testing.T, w uint32) {
	t.Helper()
	s := Text(words(w))
	x, ok := inst.Decode(w)
	if want := slowText(w, x, ok); s != want {
		t.Fatalf("Text of %08x: %q, not %q", w, s, want)
	}
	if ok {
		wantBytes(t, s, words(w))
	} else {
		wantWrong(t, s, 1, api.ErrSyntax)
	}
}

// slowText: a word's line as the chapter has it.
func slowText(w uint32, x inst.Inst, ok bool) string {
	if !ok {
		return fmt.Sprintf("word 0x%08x\n", w)
	}
	switch x.Op.Form() {
	case 'U', 'J':
		return fmt.Sprintf("%s x%d %d\n", x.Op.Name(), x.Rd, x.Imm)
	case 'I', 'H', 'K':
		return fmt.Sprintf("%s x%d x%d %d\n", x.Op.Name(), x.Rd, x.Rs1, x.Imm)
	case 'B', 'S':
		return fmt.Sprintf("%s x%d x%d %d\n", x.Op.Name(), x.Rs1, x.Rs2, x.Imm)
	case 'R':
		return fmt.Sprintf("%s x%d x%d x%d\n", x.Op.Name(), x.Rd, x.Rs1, x.Rs2)
	}
	return x.Op.Name() + "\n"
}

// P8.2.
func TestLabels(t *testing.T) {
	for _, c := range []struct {
		s      string
		names  []string
		places []int
	}{
		{"", nil, nil},
		{"ecall\n", nil, nil},
		{"a:\n", []string{"a"}, []int{0}},
		{"z:\necall\nb:\nquad 1\na:\nc:\necall\nend:\n", []string{"z", "b", "a", "c", "end"}, []int{0, 4, 12, 12, 16}},
		{"jal x1 none\na:\naddi x1 x2 4096\nb:\n", []string{"a", "b"}, []int{4, 8}},
	} {
		names, places, e := Labels(c.s)
		if !slices.Equal(names, c.names) || !slices.Equal(places, c.places) || e != api.OK {
			t.Errorf("Labels(%q): %v %v %d", c.s, names, places, e)
		}
	}
}

// P8.2: an answer is new memory.
func TestLabelsAreNew(t *testing.T) {
	const s = "a:\necall\nb:\n"
	names, places, _ := Labels(s)
	names[0], places[0] = "z", 9
	names, places, e := Labels(s)
	if !slices.Equal(names, []string{"a", "b"}) || !slices.Equal(places, []int{0, 4}) || e != api.OK {
		t.Error(names, places, e)
	}
}

// The chapter's grammar, as patterns.
const (
	namePattern     = `[a-z][a-z0-9]{0,15}`
	numberPattern   = `0|-?[1-9][0-9]*`
	registerPattern = `x(?:[0-9]|[12][0-9]|3[01])`
)

var (
	labelLine = regexp.MustCompile(`\A(` + namePattern + `):\n\z`)
	quadLine  = regexp.MustCompile(`\Aquad (` + numberPattern + `)\n\z`)
	instLine  = regexp.MustCompile(`\A([a-z]+)((?: [^ \n]+)*)\n\z`)
	operands  = map[byte]*regexp.Regexp{
		'U': regexp.MustCompile(`\A ` + registerPattern + ` (` + numberPattern + `)\z`),
		'J': regexp.MustCompile(`\A ` + registerPattern + ` (` + numberPattern + `|` + namePattern + `)\z`),
		'I': regexp.MustCompile(`\A ` + registerPattern + ` ` + registerPattern + ` (` + numberPattern + `)\z`),
		'B': regexp.MustCompile(`\A ` + registerPattern + ` ` + registerPattern + ` (` + numberPattern + `|` + namePattern + `)\z`),
		'R': regexp.MustCompile(`\A ` + registerPattern + ` ` + registerPattern + ` ` + registerPattern + `\z`),
		'N': regexp.MustCompile(`\A\z`),
	}
)

// inRange: is a number, without a width, from -2^63 to below 2^bits?
func inRange(s string, bits uint) bool {
	n, ok := new(big.Int).SetString(s, 10)
	least := new(big.Int).Neg(new(big.Int).Lsh(big.NewInt(1), 63))
	return ok && n.Cmp(least) >= 0 && n.Cmp(new(big.Int).Lsh(big.NewInt(1), bits)) < 0
}

// slowLine: what a line is by the patterns: the name that it names; its bytes' count; false, where it is none.
func slowLine(line string) (string, int, bool) {
	if m := labelLine.FindStringSubmatch(line); m != nil {
		return m[1], 0, true
	}
	if m := quadLine.FindStringSubmatch(line); m != nil {
		return "", 8, inRange(m[1], 64)
	}
	m := instLine.FindStringSubmatch(line)
	if m == nil {
		return "", 0, false
	}
	o, ok := inst.Named(m[1])
	if !ok {
		return "", 0, false
	}
	form := map[byte]byte{'H': 'I', 'K': 'I', 'S': 'I'}[o.Form()]
	if form == 0 {
		form = o.Form()
	}
	k := operands[form].FindStringSubmatch(m[2])
	if k == nil {
		return "", 0, false
	}
	number := len(k) > 1 && !strings.ContainsAny(k[1][:1], "abcdefghijklmnopqrstuvwxyz")
	return "", 4, !number || inRange(k[1], 63)
}

// slowFirst: what the first pass finds: the names, their places, the line that is wrong, and why.
func slowFirst(s string) (names []string, places []int, line int, e api.Errno) {
	at := 0
	for i, text := range strings.SplitAfter(s, "\n") {
		if text == "" {
			break
		}
		name, size, ok := slowLine(text)
		if !ok {
			return nil, nil, i + 1, api.ErrSyntax
		}
		if name != "" && slices.Contains(names, name) {
			return nil, nil, i + 1, api.ErrDouble
		}
		if name != "" {
			names, places = append(names, name), append(places, at)
		}
		at += size
		if at > api.MaxFile {
			return nil, nil, i + 1, api.ErrLimit
		}
	}
	return names, places, 0, api.OK
}

// slowSecond: what the second pass finds in a text in which the first one finds nothing wrong.
func slowSecond(s string, names []string, places []int) (b string, line int, e api.Errno) {
	for i, text := range strings.SplitAfter(s, "\n") {
		l := strings.Fields(text)
		switch {
		case len(l) == 0 || strings.HasSuffix(l[0], ":"):
		case l[0] == "quad":
			n, _ := new(big.Int).SetString(l[1], 10)
			b += le.Put(n.Mod(n, new(big.Int).Lsh(big.NewInt(1), 64)).Uint64(), 8)
		default:
			x, ok := slowInst(l, names, places, len(b))
			if !ok {
				return "", i + 1, api.ErrName
			}
			w, ok := inst.Encode(x)
			if !ok {
				return "", i + 1, api.ErrCode
			}
			b += words(w)
		}
	}
	return b, 0, api.OK
}

// slowInst: the instruction of a line's words, at a place; false, where a name is none.
func slowInst(l []string, names []string, places []int, at int) (x inst.Inst, ok bool) {
	register := func(i int) int {
		n, _ := strconv.Atoi(l[i][1:])
		return n
	}
	x.Op, ok = inst.Named(l[0])
	switch x.Op.Form() {
	case 'U', 'J':
		x.Rd = register(1)
	case 'I', 'H', 'K':
		x.Rd, x.Rs1 = register(1), register(2)
	case 'B', 'S':
		x.Rs1, x.Rs2 = register(1), register(2)
	case 'R':
		x.Rd, x.Rs1, x.Rs2 = register(1), register(2), register(3)
		return x, ok
	case 'N':
		return x, ok
	}
	imm := l[len(l)-1]
	if imm[0] < 'a' {
		x.Imm, _ = strconv.ParseInt(imm, 10, 64)
		return x, ok
	}
	i := slices.Index(names, imm)
	if i < 0 {
		return x, false
	}
	x.Imm = int64(places[i] - at)
	return x, ok
}

// wantLikeSlowly: a text's answers as the patterns tell them.
func wantLikeSlowly(t *testing.T, s string) {
	t.Helper()
	names, places, line, want := slowFirst(s)
	gotNames, gotPlaces, e := Labels(s)
	if !slices.Equal(gotNames, names) || !slices.Equal(gotPlaces, places) || e != want {
		t.Fatalf("Labels(%q): %v %v %d, not %v %v %d", s, gotNames, gotPlaces, e, names, places, want)
	}
	wantB := ""
	if want == api.OK {
		wantB, line, want = slowSecond(s, names, places)
	}
	if b, n, e := Assemble(s); b != wantB || n != line || e != want {
		t.Fatalf("Assemble(%q): %x %d %d, not %x %d %d", s, b, n, e, wantB, line, want)
	}
}

// smallPrograms from which texts that are nearly right are made.
var smallPrograms = []string{
	"loop:\naddi x10 x10 -1\nbne x10 x0 loop\n",
	"jal x1 b\nquad 18446744073709551615\nb:\nbeq x1 x31 a\na:\n",
	"lui x1 -4096\nsd x2 x30 10\nslliw x1 x2 31\nremuw x1 x2 x3\necall\nquad -9223372036854775808\n",
	"abcdefghijklmnop:\njal x0 abcdefghijklmnop\nquad 0\nbltu x9 x8 -4\n",
}

// P8.1, P8.2: texts that differ in one place from ones that are right.
func TestNearlyRight(t *testing.T) {
	const letters = "\n :x0123489-+abjzA`{/\t\r\x00\x7f\xff"
	for _, s := range smallPrograms {
		wantLikeSlowly(t, s)
		for i := range len(s) {
			wantLikeSlowly(t, s[:i])
			wantLikeSlowly(t, s[i:])
			wantLikeSlowly(t, s[:i]+s[i+1:])
			wantLikeSlowly(t, s[:i]+s[i:i+1]+s[i:])
			for k := range len(letters) {
				wantLikeSlowly(t, s[:i]+letters[k:k+1]+s[i:])
				wantLikeSlowly(t, s[:i]+letters[k:k+1]+s[i+1:])
			}
		}
	}
}

// P8.1, P8.2: whatever text a fuzzer finds.
func FuzzAssemble(f *testing.F) {
	for _, s := range smallPrograms {
		f.Add(s)
	}
	f.Add(lines)
	f.Add("a:\na:\nwrong")
	f.Fuzz(func(t *testing.T, s string) {
		wantLikeSlowly(t, s)
		if text := Text(s); strings.Count(text, "\n") != len(s)/4 {
			t.Errorf("Text(%q): %q", s, text)
		}
	})
}
