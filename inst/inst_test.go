package inst

import (
	"math"
	"strconv"
	"strings"
	"testing"
)

// chapter: the kinds as the chapter lists them: name, form, opcode in hexadecimal digits, f3, f7.
const chapter = "lui U 37 0 0; auipc U 17 0 0; jal J 6f 0 0; jalr I 67 0 0; " +
	"beq B 63 0 0; bne B 63 1 0; blt B 63 4 0; bge B 63 5 0; bltu B 63 6 0; bgeu B 63 7 0; " +
	"lb I 3 0 0; lh I 3 1 0; lw I 3 2 0; ld I 3 3 0; lbu I 3 4 0; lhu I 3 5 0; lwu I 3 6 0; " +
	"sb S 23 0 0; sh S 23 1 0; sw S 23 2 0; sd S 23 3 0; " +
	"addi I 13 0 0; slti I 13 2 0; sltiu I 13 3 0; xori I 13 4 0; ori I 13 6 0; andi I 13 7 0; " +
	"slli H 13 1 0; srli H 13 5 0; srai H 13 5 32; " +
	"addiw I 1b 0 0; slliw K 1b 1 0; srliw K 1b 5 0; sraiw K 1b 5 32; " +
	"add R 33 0 0; sub R 33 0 32; sll R 33 1 0; slt R 33 2 0; sltu R 33 3 0; " +
	"xor R 33 4 0; srl R 33 5 0; sra R 33 5 32; or R 33 6 0; and R 33 7 0; " +
	"mul R 33 0 1; mulh R 33 1 1; mulhsu R 33 2 1; mulhu R 33 3 1; " +
	"div R 33 4 1; divu R 33 5 1; rem R 33 6 1; remu R 33 7 1; " +
	"addw R 3b 0 0; subw R 3b 0 32; sllw R 3b 1 0; srlw R 3b 5 0; sraw R 3b 5 32; " +
	"mulw R 3b 0 1; divw R 3b 4 1; divuw R 3b 5 1; remw R 3b 6 1; remuw R 3b 7 1; " +
	"ecall N 73 0 0; ebreak N 73 0 1"

// constants in the chapter's order, whose names are those of the kinds with a great first letter.
var constants = []Op{
	Lui, Auipc, Jal, Jalr, Beq, Bne, Blt, Bge, Bltu, Bgeu, Lb, Lh, Lw, Ld, Lbu, Lhu, Lwu, Sb, Sh, Sw, Sd,
	Addi, Slti, Sltiu, Xori, Ori, Andi, Slli, Srli, Srai, Addiw, Slliw, Srliw, Sraiw,
	Add, Sub, Sll, Slt, Sltu, Xor, Srl, Sra, Or, And, Mul, Mulh, Mulhsu, Mulhu, Div, Divu, Rem, Remu,
	Addw, Subw, Sllw, Srlw, Sraw, Mulw, Divw, Divuw, Remw, Remuw, Ecall, Ebreak,
}

var noOps = []Op{math.MinInt, -64, -1, Ops, Ops + 1, 255, 256, 1 << 32, math.MaxInt}

// row of the chapter's list.
type row struct {
	name           string
	form           byte
	opcode, f3, f7 uint32
}

// rows of the chapter's list.
func rows(t testing.TB) []row {
	t.Helper()
	number := func(s string, base int) uint32 {
		n, err := strconv.ParseUint(s, base, 7)
		if err != nil {
			t.Fatal(err)
		}
		return uint32(n)
	}
	var l []row
	for _, s := range strings.Split(chapter, "; ") {
		w := strings.Split(s, " ")
		l = append(l, row{w[0], w[1][0], number(w[2], 16), number(w[3], 10), number(w[4], 10)})
	}
	return l
}

// P6.1.
func TestNameAndForm(t *testing.T) {
	all := rows(t)
	if int(Ops) != len(all) || len(constants) != len(all) {
		t.Fatalf("%d kinds, %d constants, not %d", Ops, len(constants), len(all))
	}
	for i, r := range all {
		o := constants[i]
		if int(o) != i || o.Name() != r.name || o.Form() != r.form {
			t.Errorf("%s has the number %d, the name %q and the form %c", r.name, o, o.Name(), o.Form())
		}
	}
	for _, o := range noOps {
		if o.Name() != "" || o.Form() != 0 {
			t.Errorf("%d has the name %q and the form %c", o, o.Name(), o.Form())
		}
	}
}

// P6.1.
func TestNamed(t *testing.T) {
	for i, r := range rows(t) {
		if o, ok := Named(r.name); int(o) != i || !ok {
			t.Errorf("Named(%q): %d %v", r.name, o, ok)
		}
	}
	for _, s := range []string{
		"", " ", "lui ", " lui", "Lui", "LUI", "lu", "luii", "subi", "quad", "word", "nop", "ebreak\x00", "\xff",
	} {
		if o, ok := Named(s); o != 0 || ok {
			t.Errorf("Named(%q): %d %v", s, o, ok)
		}
	}
}

// P6.2.
func TestDecode(t *testing.T) {
	for _, c := range []struct {
		w    uint32
		want Inst
	}{
		{0x00500513, Inst{Op: Addi, Rd: 10, Imm: 5}},
		{0xfff00f93, Inst{Op: Addi, Rd: 31, Imm: -1}},
		{0x80000013, Inst{Op: Addi, Imm: -2048}},
		{0x7fffffb7, Inst{Op: Lui, Rd: 31, Imm: 0x7ffff000}},
		{0x800000b7, Inst{Op: Lui, Rd: 1, Imm: -1 << 31}},
		{0xfffff097, Inst{Op: Auipc, Rd: 1, Imm: -4096}},
		{0x0080006f, Inst{Op: Jal, Imm: 8}},
		{0x8000006f, Inst{Op: Jal, Imm: -1 << 20}},
		{0x000ff06f, Inst{Op: Jal, Imm: 0xff000}},
		{0x0010006f, Inst{Op: Jal, Imm: 0x800}},
		{0x7fe0006f, Inst{Op: Jal, Imm: 0x7fe}},
		{0xffdff0ef, Inst{Op: Jal, Rd: 1, Imm: -4}},
		{0x00008067, Inst{Op: Jalr, Rs1: 1}},
		{0x80000063, Inst{Op: Beq, Imm: -4096}},
		{0x000000e3, Inst{Op: Beq, Imm: 0x800}},
		{0x7e000063, Inst{Op: Beq, Imm: 0x7e0}},
		{0x00000f63, Inst{Op: Beq, Imm: 0x1e}},
		{0xfe0518e3, Inst{Op: Bne, Rs1: 10, Imm: -16}},
		{0x00112423, Inst{Op: Sw, Rs1: 2, Rs2: 1, Imm: 8}},
		{0xfe112fa3, Inst{Op: Sw, Rs1: 2, Rs2: 1, Imm: -1}},
		{0x80000023, Inst{Op: Sb, Imm: -2048}},
		{0x40b50533, Inst{Op: Sub, Rd: 10, Rs1: 10, Rs2: 11}},
		{0x03f51513, Inst{Op: Slli, Rd: 10, Rs1: 10, Imm: 63}},
		{0x43f55513, Inst{Op: Srai, Rd: 10, Rs1: 10, Imm: 63}},
		{0x41f5551b, Inst{Op: Sraiw, Rd: 10, Rs1: 10, Imm: 31}},
		{0x00000073, Inst{Op: Ecall}},
		{0x00100073, Inst{Op: Ebreak}},
	} {
		wantPair(t, c.w, c.want)
	}
}

// wantPair: the word tells the instruction, and the other way round.
func wantPair(t *testing.T, w uint32, x Inst) {
	t.Helper()
	if got, ok := Decode(w); got != x || !ok {
		t.Errorf("Decode(%08x): %+v %v, not %+v", w, got, ok, x)
	}
	if got, ok := Encode(x); got != w || !ok {
		t.Errorf("Encode(%+v): %08x %v, not %08x", x, got, ok, w)
	}
}

// P6.2: words that no kind has, many of them near to one.
func TestDecodeNone(t *testing.T) {
	for _, w := range []uint32{
		0, 1, 0xffffffff, 0x0000007f,
		0x00000012, 0x00000011, 0x00000010, // the lowest two bits
		0x00001067, // jalr has no other f3
		0x00002063, // no branch has f3 2, 3
		0x00003063,
		0x00007003, // no load has f3 7
		0x00004023, // no store has f3 from 4 on
		0x80001013, // f7 but for its lowest bit
		0x04001013,
		0x40001013,
		0x0200101b, // a half is moved by less than 32
		0x4200501b,
		0x0000201b, // no half has f3 2
		0x40001033, // no sll has f7 32
		0x04000033,
		0x0200103b, // no mulhw
		0x0000203b,
		0x000000f3, // ecall with an rd, an rs1, an f3
		0x00008073,
		0x00001073,
		0x00200073,
		0x00300073,
		0x02000073,
		0x80000073,
		0x0000000f, // fence
		0x00000053, // what other extensions have
		0x0000002f,
		0x00000007,
	} {
		if x, ok := Decode(w); x != (Inst{}) || ok {
			t.Errorf("Decode(%08x): %+v %v", w, x, ok)
		}
	}
}

// has: has a word the fixed numbers of a row?
func (r row) has(w uint32) bool {
	opcode, f3, f7 := w&127, w>>12&7, w>>25
	switch r.form {
	case 'U', 'J':
		return opcode == r.opcode
	case 'I', 'B', 'S':
		return opcode == r.opcode && f3 == r.f3
	case 'R', 'K':
		return opcode == r.opcode && f3 == r.f3 && f7 == r.f7
	case 'H':
		return opcode == r.opcode && f3 == r.f3 && f7/2 == r.f7/2
	}
	return w == r.opcode+r.f7<<20
}

// moved: the bits of w from low to high, the lowest of them as the bit to.
func moved(w uint32, low, high, to int) int64 {
	var n int64
	for i := low; i <= high; i++ {
		if w&(1<<i) != 0 {
			n += 1 << (to + i - low)
		}
	}
	return n
}

// slowImm of a word, bit by bit as the chapter says.
func slowImm(w uint32, form byte) int64 {
	var n int64
	high := 0
	switch form {
	case 'U':
		n, high = moved(w, 12, 31, 12), 31
	case 'J':
		n, high = moved(w, 31, 31, 20)+moved(w, 12, 19, 12)+moved(w, 20, 20, 11)+moved(w, 21, 30, 1), 20
	case 'I':
		n, high = moved(w, 20, 31, 0), 11
	case 'B':
		n, high = moved(w, 31, 31, 12)+moved(w, 7, 7, 11)+moved(w, 25, 30, 5)+moved(w, 8, 11, 1), 12
	case 'S':
		n, high = moved(w, 25, 31, 5)+moved(w, 7, 11, 0), 11
	case 'H':
		return moved(w, 20, 25, 0)
	case 'K':
		return moved(w, 20, 24, 0)
	}
	if high > 0 && n >= 1<<high {
		n -= 2 << high
	}
	return n
}

// slowly decodes a word by the chapter's rows.
func slowly(w uint32, all []row) (Inst, bool) {
	for i, r := range all {
		if !r.has(w) {
			continue
		}
		x := Inst{Op: Op(i), Imm: slowImm(w, r.form)}
		rd, rs1, rs2 := int(w>>7&31), int(w>>15&31), int(w>>20&31)
		switch r.form {
		case 'U', 'J':
			x.Rd = rd
		case 'I', 'H', 'K':
			x.Rd, x.Rs1 = rd, rs1
		case 'B', 'S':
			x.Rs1, x.Rs2 = rs1, rs2
		case 'R':
			x.Rd, x.Rs1, x.Rs2 = rd, rs1, rs2
		}
		return x, true
	}
	return Inst{}, false
}

// wantLikeSlowly: Decode as the chapter's rows tell it, and Encode back.
func wantLikeSlowly(t *testing.T, w uint32, all []row) {
	t.Helper()
	want, there := slowly(w, all)
	got, ok := Decode(w)
	if got != want || ok != there {
		t.Fatalf("Decode(%08x): %+v %v, not %+v %v", w, got, ok, want, there)
	}
	if !there {
		return
	}
	if v, ok := Encode(want); v != w || !ok {
		t.Fatalf("Encode(%+v): %08x %v, not %08x", want, v, ok, w)
	}
}

// P6.2, P6.3: all fixed numbers that a word may have, with some registers.
func TestAllFixedNumbers(t *testing.T) {
	all := rows(t)
	fills := []uint32{0, 0xffffffff, 0x55555555, 0xaaaaaaaa, 0x00100000, 0x01000000, 0x00000080, 0x00008000, 0x00000f00}
	for opcode := range uint32(128) {
		for f3 := range uint32(8) {
			for f7 := range uint32(128) {
				for _, fill := range fills {
					wantLikeSlowly(t, opcode|f3<<12|f7<<25|fill&0x01ff8f80, all)
				}
			}
		}
	}
}

// P6.2, P6.3: each kind's words with one, or two, of all other bits.
func TestAllBits(t *testing.T) {
	all := rows(t)
	for _, r := range all {
		base := r.opcode | r.f3<<12 | r.f7<<25
		for i := range 32 {
			for j := range 32 {
				wantLikeSlowly(t, base^1<<i^1<<j, all)
				wantLikeSlowly(t, base^1<<i, all)
				wantLikeSlowly(t, base|0xfffff000<<i|1<<j, all)
			}
		}
	}
}

// P6.2, P6.3: whatever word a fuzzer finds.
func FuzzDecode(f *testing.F) {
	all := rows(f)
	for _, r := range all {
		f.Add(r.opcode | r.f3<<12 | r.f7<<25)
	}
	f.Fuzz(func(t *testing.T, w uint32) { wantLikeSlowly(t, w, all) })
}

// wantNone: the instruction goes into no word.
func wantNone(t *testing.T, x Inst) {
	t.Helper()
	if w, ok := Encode(x); w != 0 || ok {
		t.Errorf("Encode(%+v): %08x %v", x, w, ok)
	}
}

// P6.3.
func TestEncodeOfNone(t *testing.T) {
	for _, o := range noOps {
		wantNone(t, Inst{Op: o})
		wantNone(t, Inst{Op: o, Rd: 1, Rs1: 2, Rs2: 3, Imm: 4})
	}
}

// P6.3: the least and the greatest Imm of each form, what is just beyond, and what is between.
func TestEncodeImm(t *testing.T) {
	for _, c := range []struct {
		form              byte
		least, most, step int64
	}{
		{'U', -1 << 31, 1<<31 - 4096, 4096},
		{'J', -1 << 20, 1<<20 - 2, 2},
		{'I', -2048, 2047, 1},
		{'B', -4096, 4094, 2},
		{'S', -2048, 2047, 1},
		{'H', 0, 63, 1},
		{'K', 0, 31, 1},
		{'R', 0, 0, 1},
		{'N', 0, 0, 1},
	} {
		for _, o := range constants {
			if o.Form() != c.form {
				continue
			}
			for _, imm := range []int64{c.least, c.least + c.step, 0, c.step, c.most - c.step, c.most} {
				wantImm(t, Inst{Op: o, Imm: imm}, imm >= c.least && imm <= c.most)
			}
			for _, imm := range []int64{
				c.least - c.step, c.least - 1, c.most + 1, c.most + c.step, c.most + c.step/2 + 1,
				math.MinInt64, math.MaxInt64, 1 << 32, -1 << 32, 1<<32 + c.most, 1<<33 + c.least, 1 << 31,
			} {
				wantImm(t, Inst{Op: o, Imm: imm}, false)
			}
			if c.step > 1 {
				for _, imm := range []int64{1, -1, 3, c.step - 1, c.step + 1, c.most - 1, c.least + 1} {
					wantImm(t, Inst{Op: o, Imm: imm}, false)
				}
			}
		}
	}
}

// wantImm: does the instruction go into a word, which tells it again?
func wantImm(t *testing.T, x Inst, there bool) {
	t.Helper()
	if !there {
		wantNone(t, x)
		return
	}
	w, ok := Encode(x)
	if y, told := Decode(w); !ok || !told || y != x {
		t.Errorf("Encode(%+v): %08x %v, which is %+v", x, w, ok, y)
	}
}

// P6.3: what a form has not is 0, and a register is from 0 to 31.
func TestEncodeRegisters(t *testing.T) {
	for _, o := range constants {
		for _, c := range []struct {
			forms string
			with  func(n int) Inst
		}{
			{"UJIHKR", func(n int) Inst { return Inst{Op: o, Rd: n} }},
			{"IHKBSR", func(n int) Inst { return Inst{Op: o, Rs1: n} }},
			{"BSR", func(n int) Inst { return Inst{Op: o, Rs2: n} }},
		} {
			has := strings.ContainsRune(c.forms, rune(o.Form()))
			for n := range 32 {
				wantImm(t, c.with(n), n == 0 || has)
			}
			for _, n := range []int{math.MinInt, -1 << 32, -32, -31, -1, 32, 33, 63, 64, 1 << 32, 1<<32 + 5, math.MaxInt} {
				wantNone(t, c.with(n))
			}
		}
	}
}
