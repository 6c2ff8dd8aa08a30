package cpu

import (
	"math"
	"math/big"
	"strings"
	"testing"

	"turnbuckle/api"
	"turnbuckle/fail"
	"turnbuckle/inst"
	"turnbuckle/le"
	"turnbuckle/vmem"
	"turnbuckle/word"
)

// Where the pages of the tests' spaces are: code may be fetched alone, data loaded and stored, fixed loaded alone, blind
// stored alone; behind blind, and ahead of code, there is a hole.
const (
	code  = api.Low
	data  = code + api.Page
	fixed = data + api.Page
	blind = fixed + api.Page
	hole  = blind + api.Page
)

// Registers of the tests' instructions.
const (
	rd  = 7
	rs1 = 5
	rs2 = 6
)

// edges: numbers at which something may go wrong.
var edges = []uint64{
	0, 1, 2, 3, 5, 31, 32, 63, 64, 0x7ff, 0x800, 0xfff, 1<<31 - 1, 1 << 31, 1<<32 - 1, 1 << 32, 1<<63 - 1, 1 << 63,
	1<<63 + 1, math.MaxUint64 - 31, math.MaxUint64 - 1, math.MaxUint64, 0x0123456789abcdef, 0xfedcba9876543210,
}

// space with the tests' pages, and with these words as the code.
func space(t testing.TB, words ...uint32) *vmem.Space {
	t.Helper()
	m, _ := vmem.New(8)
	for at, perm := range map[uint64]int{code: vmem.X, data: vmem.R | vmem.W, fixed: vmem.R, blind: vmem.W} {
		if e := m.Map(at, 1, perm); e != api.OK {
			t.Fatal(at, e)
		}
	}
	for i, w := range words {
		poke(t, m, code+uint64(i)*4, le.Put(uint64(w), 4))
	}
	return m
}

func poke(t testing.TB, m *vmem.Space, at uint64, b string) {
	t.Helper()
	if f := m.Poke(at, b); !f.OK() {
		t.Fatal(at, f)
	}
}

// encoded: the words of some instructions.
func encoded(t testing.TB, l ...inst.Inst) []uint32 {
	t.Helper()
	var words []uint32
	for _, x := range l {
		w, ok := inst.Encode(x)
		if !ok {
			t.Fatalf("%s %+v goes into no word", x.Op.Name(), x)
		}
		words = append(words, w)
	}
	return words
}

// programmed: a space with these instructions as the code.
func programmed(t testing.TB, l ...inst.Inst) *vmem.Space {
	t.Helper()
	return space(t, encoded(t, l...)...)
}

// started: a state at the code's first instruction, with a and b in rs1 and rs2, and something else in all others.
func started(a, b uint64) State {
	s := State{PC: code}
	for i := range s.X {
		s.X[i] = 0x1111111111111111 + uint64(i)
	}
	s.X[0], s.X[rs1], s.X[rs2] = 0, a, b
	return s
}

// with: a state with a register, and a place.
func (s State) with(r int, n, pc uint64) State {
	s.X[r], s.PC = n, pc
	return s
}

// at: a state with a place.
func (s State) at(pc uint64) State {
	s.PC = pc
	return s
}

// wantStep: what a step must tell; a step of which no store is told leaves the space as it was.
func wantStep(t *testing.T, what string, m *vmem.Space, s, want State, wantEvent Event, wantFault fail.Fault) {
	t.Helper()
	before := m.Copy()
	got, event, f := Step(m, s)
	if got != want || event != wantEvent || f != wantFault {
		t.Errorf("%s: %v %d %v, not %v %d %v", what, got, event, f, want, wantEvent, wantFault)
	}
	if m != nil && !m.Same(before) {
		t.Errorf("%s: the space has changed", what)
	}
}

// P7.1.
func TestEvents(t *testing.T) {
	if None != 0 || Call != 1 || Break != 2 || Trap != 3 {
		t.Error(None, Call, Break, Trap)
	}
}

// P7.1: the chapter's example.
func TestExample(t *testing.T) {
	m := space(t, 0x00500513)
	s, event, f := Step(m, State{PC: 65536})
	want := State{PC: 65540}
	want.X[10] = 5
	if s != want || event != None || !f.OK() {
		t.Error(s, event, f)
	}
}

// P7.1: what sets rd by PC and Imm, and what goes elsewhere.
func TestPlaces(t *testing.T) {
	const a = 0x20000
	for _, c := range []struct {
		x      inst.Inst
		set    bool
		n, pc  uint64
		a      uint64
		remark string
	}{
		{inst.Inst{Op: inst.Lui, Rd: rd, Imm: 0x12345000}, true, 0x12345000, code + 4, a, "lui"},
		{inst.Inst{Op: inst.Lui, Rd: rd, Imm: -1 << 31}, true, 0xffffffff80000000, code + 4, a, "lui below 0"},
		{inst.Inst{Op: inst.Auipc, Rd: rd, Imm: 0x1000}, true, code + 0x1000, code + 4, a, "auipc"},
		{inst.Inst{Op: inst.Auipc, Rd: rd, Imm: -0x20000}, true, math.MaxUint64 - 0xffff, code + 4, a, "auipc below 0"},
		{inst.Inst{Op: inst.Jal, Rd: rd, Imm: 8}, true, code + 4, code + 8, a, "jal"},
		{inst.Inst{Op: inst.Jal, Rd: rd, Imm: 0}, true, code + 4, code, a, "jal to itself"},
		{inst.Inst{Op: inst.Jal, Rd: rd, Imm: -0x10004}, true, code + 4, math.MaxUint64 - 3, a, "jal below 0"},
		{inst.Inst{Op: inst.Jalr, Rd: rd, Rs1: rs1, Imm: 8}, true, code + 4, a + 8, a, "jalr"},
		{inst.Inst{Op: inst.Jalr, Rd: rd, Rs1: rs1, Imm: -8}, true, code + 4, a - 8, a, "jalr backward"},
		{inst.Inst{Op: inst.Jalr, Rd: rd, Rs1: rs1, Imm: 1}, true, code + 4, a, a, "jalr, its lowest bit 0"},
		{inst.Inst{Op: inst.Jalr, Rd: rd, Rs1: rs1, Imm: 3}, true, code + 4, a + 4, a + 2, "jalr, the lowest bit of the sum"},
		{inst.Inst{Op: inst.Jalr, Rd: rd, Rs1: rs1, Imm: 8}, true, code + 4, 4, math.MaxUint64 - 3, "jalr beyond 2^64"},
		{inst.Inst{Op: inst.Jalr, Rd: rs1, Rs1: rs1, Imm: 8}, true, code + 4, a + 8, a, "jalr whose rd is rs1"},
		{inst.Inst{Op: inst.Jalr, Rd: 0, Rs1: rs1}, false, 0, api.Traps + 8, api.Traps + 8, "jalr to a trap"},
		{inst.Inst{Op: inst.Beq, Rs1: rs1, Rs2: rs1, Imm: 4092}, false, 0, code + 4092, a, "beq"},
		{inst.Inst{Op: inst.Bne, Rs1: rs1, Rs2: rs1, Imm: 4092}, false, 0, code + 4, a, "bne"},
		{inst.Inst{Op: inst.Bge, Rs1: rs1, Rs2: rs1, Imm: -4096}, false, 0, code - 4096, a, "bge backward"},
	} {
		s := started(c.a, 0)
		want := s.at(c.pc)
		if c.set {
			want = s.with(c.x.Rd, c.n, c.pc)
		}
		wantStep(t, c.remark, programmed(t, c.x), s, want, None, fail.Fault{})
	}
}

// signedBig: a number, signed, without a width.
func signedBig(n uint64) *big.Int { return big.NewInt(int64(n)) }

// unsignedBig: a number without a width.
func unsignedBig(n uint64) *big.Int { return new(big.Int).SetUint64(n) }

// P7.1.
func TestBranches(t *testing.T) {
	holds := map[inst.Op]func(a, b uint64) bool{
		inst.Beq:  func(a, b uint64) bool { return unsignedBig(a).Cmp(unsignedBig(b)) == 0 },
		inst.Bne:  func(a, b uint64) bool { return unsignedBig(a).Cmp(unsignedBig(b)) != 0 },
		inst.Blt:  func(a, b uint64) bool { return signedBig(a).Cmp(signedBig(b)) < 0 },
		inst.Bge:  func(a, b uint64) bool { return signedBig(a).Cmp(signedBig(b)) >= 0 },
		inst.Bltu: func(a, b uint64) bool { return unsignedBig(a).Cmp(unsignedBig(b)) < 0 },
		inst.Bgeu: func(a, b uint64) bool { return unsignedBig(a).Cmp(unsignedBig(b)) >= 0 },
	}
	for o, f := range holds {
		m := programmed(t, inst.Inst{Op: o, Rs1: rs1, Rs2: rs2, Imm: -8})
		for _, a := range edges {
			for _, b := range edges {
				s := started(a, b)
				pc := uint64(code + 4)
				if f(a, b) {
					pc = code - 8
				}
				wantStep(t, o.Name(), m, s, s.at(pc), None, fail.Fault{})
			}
		}
	}
}

// P7.1: those of the form R, and those that have an Imm: the operation of that name without the i.
func TestOperations(t *testing.T) {
	count := 0
	for o := inst.Addi; o <= inst.Remuw; o++ {
		name := o.Name()
		var imms []int64
		switch o.Form() {
		case 'I':
			imms = []int64{0, 1, 5, 31, 32, 2047, -1, -2, -2048}
		case 'H':
			imms = []int64{0, 1, 31, 32, 63}
		case 'K':
			imms = []int64{0, 1, 31}
		}
		if imms != nil {
			name = strings.Replace(name, "i", "", 1)
		}
		op, ok := word.Named(name)
		if !ok {
			t.Fatalf("%s: no operation", o.Name())
		}
		count++
		for _, imm := range imms {
			wantOperation(t, inst.Inst{Op: o, Rd: rd, Rs1: rs1, Imm: imm}, func(a, _ uint64) uint64 {
				return word.Do(op, a, uint64(imm))
			})
		}
		if imms == nil {
			wantOperation(t, inst.Inst{Op: o, Rd: rd, Rs1: rs1, Rs2: rs2}, func(a, b uint64) uint64 { return word.Do(op, a, b) })
		}
	}
	if count != 13+28 {
		t.Error(count)
	}
}

// wantOperation: what an instruction must make of all edges.
func wantOperation(t *testing.T, x inst.Inst, want func(a, b uint64) uint64) {
	t.Helper()
	m := programmed(t, x)
	for _, a := range edges {
		for _, b := range edges {
			s := started(a, b)
			wantStep(t, x.Op.Name(), m, s, s.with(x.Rd, want(a, b), code+4), None, fail.Fault{})
		}
	}
}

// P7.1: some of them, by their numbers.
func TestOperationNumbers(t *testing.T) {
	const minus1 = math.MaxUint64
	for _, c := range []struct {
		x          inst.Inst
		a, b, want uint64
	}{
		{inst.Inst{Op: inst.Addi, Imm: -1}, 0, 9, minus1},
		{inst.Inst{Op: inst.Slti, Imm: -1}, 1 << 63, 9, 1},
		{inst.Inst{Op: inst.Slti, Imm: 1}, 1, 9, 0},
		{inst.Inst{Op: inst.Sltiu, Imm: -1}, 1 << 63, 9, 1},
		{inst.Inst{Op: inst.Sltiu, Imm: 1}, minus1, 9, 0},
		{inst.Inst{Op: inst.Xori, Imm: -1}, 5, 9, minus1 - 5},
		{inst.Inst{Op: inst.Ori, Imm: 6}, 1, 9, 7},
		{inst.Inst{Op: inst.Andi, Imm: -2}, minus1, 9, minus1 - 1},
		{inst.Inst{Op: inst.Slli, Imm: 63}, 3, 9, 1 << 63},
		{inst.Inst{Op: inst.Srli, Imm: 63}, minus1, 9, 1},
		{inst.Inst{Op: inst.Srai, Imm: 63}, 1 << 63, 9, minus1},
		{inst.Inst{Op: inst.Addiw, Imm: 1}, 1<<31 - 1, 9, minus1 - 1<<31 + 1},
		{inst.Inst{Op: inst.Slliw, Imm: 31}, 1, 9, minus1 - 1<<31 + 1},
		{inst.Inst{Op: inst.Srliw, Imm: 31}, 1 << 31, 9, 1},
		{inst.Inst{Op: inst.Sraiw, Imm: 31}, 1 << 31, 9, minus1},
		{inst.Inst{Op: inst.Sub}, 3, 5, minus1 - 1},
		{inst.Inst{Op: inst.Mulhu}, minus1, minus1, minus1 - 1},
		{inst.Inst{Op: inst.Div}, 1 << 63, minus1, 1 << 63},
		{inst.Inst{Op: inst.Divu}, 7, 0, minus1},
		{inst.Inst{Op: inst.Rem}, minus1 - 6, 2, minus1},
		{inst.Inst{Op: inst.Remuw}, 1 << 32, 0, 0},
	} {
		c.x.Rd, c.x.Rs1 = rd, rs1
		if c.x.Op.Form() == 'R' {
			c.x.Rs2 = rs2
		}
		s := started(c.a, c.b)
		wantStep(t, c.x.Op.Name(), programmed(t, c.x), s, s.with(rd, c.want, code+4), None, fail.Fault{})
	}
}

// P7.1.
func TestLoads(t *testing.T) {
	for _, c := range []struct {
		o          inst.Op
		bytes      string
		low, below uint64 // of the bytes as they are, and of those with their highest bit
	}{
		{inst.Lb, "\x71", 0x71, 0xfffffffffffffff1},
		{inst.Lh, "\x01\x72", 0x7201, 0xfffffffffffff201},
		{inst.Lw, "\x01\x02\x03\x74", 0x74030201, 0xfffffffff4030201},
		{inst.Ld, "\x01\x02\x03\x04\x05\x06\x07\x78", 0x7807060504030201, 0xf807060504030201},
		{inst.Lbu, "\x71", 0x71, 0xf1},
		{inst.Lhu, "\x01\x72", 0x7201, 0xf201},
		{inst.Lwu, "\x01\x02\x03\x74", 0x74030201, 0xf4030201},
	} {
		last := len(c.bytes) - 1
		high := c.bytes[:last] + string([]byte{c.bytes[last] | 0x80})
		for _, k := range []struct {
			base uint64
			imm  int64
		}{{data, 0}, {data + 2048, -2048}, {data - 2047, 2047}, {fixed - 1, 0}, {fixed, 9}, {fixed + 1, -4}} {
			m := programmed(t, inst.Inst{Op: c.o, Rd: rd, Rs1: rs1, Imm: k.imm})
			at := k.base + uint64(k.imm)
			s := started(k.base, 0)
			poke(t, m, data, strings.Repeat("\xee", 2*api.Page))
			poke(t, m, at, c.bytes)
			wantStep(t, c.o.Name(), m, s, s.with(rd, c.low, code+4), None, fail.Fault{})
			poke(t, m, at, high)
			wantStep(t, c.o.Name(), m, s, s.with(rd, c.below, code+4), None, fail.Fault{})
		}
	}
}

// P7.1: the register that the place is of is the one that is set.
func TestLoadOverItsPlace(t *testing.T) {
	m := programmed(t, inst.Inst{Op: inst.Ld, Rd: rs1, Rs1: rs1, Imm: 8})
	poke(t, m, data+8, le.Put(77, 8))
	s := started(data, 0)
	wantStep(t, "ld", m, s, s.with(rs1, 77, code+4), None, fail.Fault{})
}

// storesOf: the kinds that store, and how many bytes.
var storesOf = map[inst.Op]int{inst.Sb: 1, inst.Sh: 2, inst.Sw: 4, inst.Sd: 8}

// P7.1: just these bytes are stored, and all else stays.
func TestStores(t *testing.T) {
	const n = 0xf8e7d6c5b4a39281
	for o, size := range storesOf {
		for _, k := range []struct {
			base uint64
			imm  int64
		}{{data, 0}, {data + 2048, -2048}, {data - 2047, 2047}, {data + 5, -4}, {fixed - 8, 0}, {blind + 3, 4}} {
			m := programmed(t, inst.Inst{Op: o, Rs1: rs1, Rs2: rs2, Imm: k.imm})
			poke(t, m, data, strings.Repeat("\xee", api.Page))
			want := m.Copy()
			poke(t, want, k.base+uint64(k.imm), le.Put(n, size))
			s := started(k.base, n)
			got, event, f := Step(m, s)
			if got != s.at(code+4) || event != None || !f.OK() {
				t.Errorf("%s at %d: %v %d %v", o.Name(), k.base, got, event, f)
			}
			if !m.Same(want) {
				t.Errorf("%s at %d: other bytes are stored", o.Name(), k.base)
			}
		}
	}
}

// P7.1: a store over two pages.
func TestStoreOverPages(t *testing.T) {
	for o, size := range storesOf {
		if size == 1 {
			continue
		}
		for ahead := 1; ahead < size; ahead++ {
			x := inst.Inst{Op: o, Rs1: rs1, Rs2: rs2, Imm: -int64(ahead)}
			m := programmed(t, x)
			s := started(fixed, math.MaxUint64)
			wantStep(t, o.Name(), m, s, s, None, fail.At(api.ErrWrite, fixed))
			m = programmed(t, x)
			m.Protect(fixed, 1, vmem.R|vmem.W)
			want := m.Copy()
			poke(t, want, fixed-uint64(ahead), strings.Repeat("\xff", size))
			if got, event, f := Step(m, s); got != s.at(code+4) || event != None || !f.OK() || !m.Same(want) {
				t.Errorf("%s, %d ahead: %v %d %v", o.Name(), ahead, got, event, f)
			}
		}
	}
}

// P7.1: with a fault of a load or a store the state stays, and nothing is stored.
func TestLoadStoreFaults(t *testing.T) {
	for _, c := range []struct {
		o    inst.Op
		base uint64
		imm  int64
		want fail.Fault
	}{
		{inst.Lb, hole, 0, fail.At(api.ErrHole, hole)},
		{inst.Lbu, code, -1, fail.At(api.ErrHole, code-1)},
		{inst.Lb, code, 0, fail.At(api.ErrRead, code)},
		{inst.Lh, blind, -1, fail.At(api.ErrRead, blind)},
		{inst.Lhu, blind, 4, fail.At(api.ErrRead, blind+4)},
		{inst.Lw, blind, -1, fail.At(api.ErrRead, blind)},
		{inst.Lwu, blind, -3, fail.At(api.ErrRead, blind)},
		{inst.Ld, blind, -7, fail.At(api.ErrRead, blind)},
		{inst.Ld, hole, -4, fail.At(api.ErrRead, hole-4)},
		{inst.Ld, 0, -8, fail.At(api.ErrHole, math.MaxUint64-7)},
		{inst.Ld, math.MaxUint64, 1, fail.At(api.ErrHole, 0)},
		{inst.Sb, hole, 0, fail.At(api.ErrHole, hole)},
		{inst.Sb, code, 0, fail.At(api.ErrWrite, code)},
		{inst.Sh, hole, -1, fail.At(api.ErrHole, hole)},
		{inst.Sw, hole, -1, fail.At(api.ErrHole, hole)},
		{inst.Sd, hole, -7, fail.At(api.ErrHole, hole)},
		{inst.Sd, fixed, -1, fail.At(api.ErrWrite, fixed)},
		{inst.Sd, data, -1, fail.At(api.ErrWrite, data-1)},
		{inst.Sd, fixed, 0, fail.At(api.ErrWrite, fixed)},
		{inst.Sw, 4, -8, fail.At(api.ErrHole, math.MaxUint64-3)},
	} {
		x := inst.Inst{Op: c.o, Rs1: rs1, Imm: c.imm}
		if c.o.Form() == 'S' {
			x.Rs2 = rs2
		} else {
			x.Rd = rd
		}
		s := started(c.base, math.MaxUint64)
		wantStep(t, c.o.Name(), programmed(t, x), s, s, None, c.want)
		s.X[0] = 9
		wantStep(t, c.o.Name(), programmed(t, x), s, s.with(0, 0, code), None, c.want)
	}
}

// P7.1: a load to register 0 has its fault, too.
func TestLoadToRegister0(t *testing.T) {
	m := programmed(t, inst.Inst{Op: inst.Ld, Rs1: rs1})
	wantStep(t, "there", m, started(data, 0), started(data, 0).at(code+4), None, fail.Fault{})
	wantStep(t, "hole", m, started(hole, 0), started(hole, 0), None, fail.At(api.ErrHole, hole))
}

// P7.1.
func TestCallAndBreak(t *testing.T) {
	m := programmed(t, inst.Inst{Op: inst.Ecall}, inst.Inst{Op: inst.Ebreak})
	s := started(1, 2)
	wantStep(t, "ecall", m, s, s.at(code+4), Call, fail.Fault{})
	wantStep(t, "ebreak", m, s.at(code+4), s.at(code+8), Break, fail.Fault{})
}

// P7.1: a Trap comes ahead of all else, and whatever the space is.
func TestTrap(t *testing.T) {
	m := programmed(t, inst.Inst{Op: inst.Ecall})
	if e := m.Map(api.Traps, 1, vmem.X); e != api.OK {
		t.Fatal(e)
	}
	poke(t, m, api.Traps, "\x73\x00\x00\x00")
	for _, pc := range []uint64{
		api.Traps, api.Traps + 1, api.Traps + 2, api.Traps + 8, api.Traps + api.Page, 1 << 63, math.MaxUint64 - 3, math.MaxUint64,
	} {
		s := started(1, 2).at(pc)
		wantStep(t, "trap", m, s, s, Trap, fail.Fault{})
		wantStep(t, "trap without a space", nil, s, s, Trap, fail.Fault{})
		s.X[0] = 5
		wantStep(t, "trap with a register 0", m, s, s.with(0, 0, pc), Trap, fail.Fault{})
	}
}

// P7.1: the last instruction below Traps is one.
func TestBelowTraps(t *testing.T) {
	m := space(t)
	if e := m.Map(api.Traps-api.Page, 1, vmem.X); e != api.OK {
		t.Fatal(e)
	}
	poke(t, m, api.Traps-4, "\x73\x00\x00\x00")
	s := started(1, 2).at(api.Traps - 4)
	wantStep(t, "ecall", m, s, s.at(api.Traps), Call, fail.Fault{})
	for _, pc := range []uint64{api.Traps - 3, api.Traps - 2, api.Traps - 1} {
		wantStep(t, "alignment", m, s.at(pc), s.at(pc), None, fail.At(api.ErrAlign, pc))
	}
}

// P7.1: the fault of what can't be fetched, or is no instruction.
func TestFetchFaults(t *testing.T) {
	m := space(t, 0x00000073, 0x00000000, 0xffffffff, 0x00002063)
	poke(t, m, data, "\x73\x00\x00\x00")
	for _, c := range []struct {
		pc   uint64
		want fail.Fault
	}{
		{code + 1, fail.At(api.ErrAlign, code+1)},
		{code + 2, fail.At(api.ErrAlign, code+2)},
		{code + 3, fail.At(api.ErrAlign, code+3)},
		{hole + 2, fail.At(api.ErrAlign, hole+2)},
		{data + 2, fail.At(api.ErrAlign, data+2)},
		{hole, fail.At(api.ErrHole, hole)},
		{0, fail.At(api.ErrHole, 0)},
		{code - 4, fail.At(api.ErrHole, code-4)},
		{data, fail.At(api.ErrExec, data)},
		{fixed, fail.At(api.ErrExec, fixed)},
		{code + 4, fail.At(api.ErrCode, code+4)},
		{code + 8, fail.At(api.ErrCode, code+8)},
		{code + 12, fail.At(api.ErrCode, code+12)},
		{code + 16, fail.At(api.ErrCode, code+16)},
	} {
		s := started(1, 2).at(c.pc)
		wantStep(t, "fetch", m, s, s, None, c.want)
		s.X[0] = math.MaxUint64
		wantStep(t, "fetch with a register 0", m, s, s.with(0, 0, c.pc), None, c.want)
	}
}

// P7.1, P1: a space that is none.
func TestNoSpace(t *testing.T) {
	for _, pc := range []uint64{0, 2, code, api.Traps - 4} {
		s := started(1, 2).at(pc)
		wantStep(t, "step", nil, s, s, None, fail.Of(api.ErrArg))
		got, steps, event, f := Run(nil, s, 3)
		if got != s || steps != 0 || event != None || f != fail.Of(api.ErrArg) {
			t.Error(got, steps, event, f)
		}
	}
	wantStep(t, "without a page", new(vmem.Space), started(1, 2), started(1, 2), None, fail.At(api.ErrHole, code))
}

// P7.1: where PC would be no multiple of 4.
func TestAlign(t *testing.T) {
	const a = 0x20000
	for _, c := range []struct {
		x    inst.Inst
		a    uint64
		want uint64
	}{
		{inst.Inst{Op: inst.Jal, Rd: rd, Imm: 2}, a, code + 2},
		{inst.Inst{Op: inst.Jal, Rd: rd, Imm: -6}, a, code - 6},
		{inst.Inst{Op: inst.Jal, Imm: 6}, a, code + 6},
		{inst.Inst{Op: inst.Jalr, Rd: rd, Rs1: rs1, Imm: 2}, a, a + 2},
		{inst.Inst{Op: inst.Jalr, Rd: rd, Rs1: rs1, Imm: 3}, a, a + 2},
		{inst.Inst{Op: inst.Jalr, Rd: rs1, Rs1: rs1, Imm: 0}, a + 3, a + 2},
		{inst.Inst{Op: inst.Jalr, Rd: rd, Rs1: rs1, Imm: 0}, math.MaxUint64, math.MaxUint64 - 1},
		{inst.Inst{Op: inst.Jalr, Rd: rd, Rs1: rs1, Imm: 0}, api.Traps + 2, api.Traps + 2},
		{inst.Inst{Op: inst.Beq, Rs1: rs1, Rs2: rs1, Imm: 2}, a, code + 2},
		{inst.Inst{Op: inst.Bne, Rs1: rs1, Imm: 4094}, a, code + 4094},
		{inst.Inst{Op: inst.Blt, Rs2: rs1, Imm: -2}, a, code - 2},
		{inst.Inst{Op: inst.Bge, Rs1: rs1, Imm: 10}, a, code + 10},
		{inst.Inst{Op: inst.Bltu, Rs2: rs1, Imm: 6}, a, code + 6},
		{inst.Inst{Op: inst.Bgeu, Rs1: rs1, Imm: -4094}, a, code - 4094},
	} {
		m := programmed(t, c.x)
		s := started(c.a, 0)
		wantStep(t, c.x.Op.Name(), m, s, s, None, fail.At(api.ErrAlign, c.want))
		s.X[0] = 1
		wantStep(t, c.x.Op.Name(), m, s, s.with(0, 0, code), None, fail.At(api.ErrAlign, c.want))
	}
	s := started(a, 0)
	wantStep(t, "bne that isn't taken", programmed(t, inst.Inst{Op: inst.Bne, Rs1: rs1, Rs2: rs1, Imm: 2}), s, s.at(code+4), None, fail.Fault{})
}

// P7.1: register 0 counts as 0, whatever it is, and stays 0, whatever sets it.
func TestRegister0(t *testing.T) {
	for o := inst.Op(0); o < inst.Ops; o++ {
		x := inst.Inst{Op: o}
		if strings.IndexByte("UJIHK", o.Form()) >= 0 {
			x.Imm = map[byte]int64{'U': 4096, 'J': 8, 'I': 4, 'H': 4, 'K': 4}[o.Form()]
		}
		m := programmed(t, x)
		if e := m.Map(0, 1, vmem.R|vmem.W); e != api.OK {
			t.Fatal(e)
		}
		poke(t, m, 0, strings.Repeat("\x55", 16))
		clean := started(3, 4)
		other := m.Copy()
		want, wantEvent, wantFault := Step(other, clean)
		dirty := clean
		dirty.X[0] = data + 1
		got, event, f := Step(m, dirty)
		if !wantFault.OK() || want.X[0] != 0 || got != want || event != wantEvent || f != wantFault || !m.Same(other) {
			t.Errorf("%s: %v %d %v, not %v %d %v", o.Name(), got, event, f, want, wantEvent, wantFault)
		}
	}
}

// summing: a program that adds up register 10 and all below, stores the sum at register 11, and is called out of; behind it a break.
func summing() []inst.Inst {
	return []inst.Inst{
		{Op: inst.Addi, Rd: 5},
		{Op: inst.Add, Rd: 5, Rs1: 5, Rs2: 10},
		{Op: inst.Addi, Rd: 10, Rs1: 10, Imm: -1},
		{Op: inst.Bne, Rs1: 10, Imm: -8},
		{Op: inst.Sd, Rs1: 11, Rs2: 5},
		{Op: inst.Ld, Rd: 6, Rs1: 11},
		{Op: inst.Ecall},
		{Op: inst.Ebreak},
	}
}

// P7.2: each fuel is as so many steps.
func TestRunIsSteps(t *testing.T) {
	const last = 1 + 3*4 + 2 + 1 // the step that is the Call
	start := State{PC: code}
	start.X[10], start.X[11] = 4, data+8
	for fuel := -1; fuel <= last+3; fuel++ {
		stepped, s := programmed(t, summing()...), start
		event := None
		for i := 0; i < fuel && event == None; i++ {
			var f fail.Fault
			if s, event, f = Step(stepped, s); !f.OK() {
				t.Fatal(i, f)
			}
		}
		m := programmed(t, summing()...)
		got, steps, gotEvent, f := Run(m, start, fuel)
		want := fail.Fault{}
		if fuel < last {
			want = fail.At(api.ErrFuel, s.PC)
		}
		if got != s || steps != min(max(fuel, 0), last) || gotEvent != event || f != want || !m.Same(stepped) {
			t.Errorf("fuel %d: %v %d %d %v, not %v %d %v", fuel, got, steps, gotEvent, f, s, event, want)
		}
	}
}

// wantRun: what a run must tell.
func wantRun(t *testing.T, what string, m *vmem.Space, s State, fuel int, want State, steps int, event Event, fault fail.Fault) State {
	t.Helper()
	got, n, e, f := Run(m, s, fuel)
	if got != want || n != steps || e != event || f != fault {
		t.Errorf("%s, fuel %d: %v %d %d %v, not %v %d %d %v", what, fuel, got, n, e, f, want, steps, event, fault)
	}
	return got
}

// P7.2: Call and Break are steps, and need fuel.
func TestRunEvents(t *testing.T) {
	m := programmed(t, inst.Inst{Op: inst.Ecall}, inst.Inst{Op: inst.Ebreak}, inst.Inst{Op: inst.Addi}, inst.Inst{Op: inst.Ebreak})
	s := started(1, 2)
	for _, fuel := range []int{1, 2, 100, math.MaxInt} {
		wantRun(t, "call", m, s, fuel, s.at(code+4), 1, Call, fail.Fault{})
		wantRun(t, "break", m, s.at(code+4), fuel, s.at(code+8), 1, Break, fail.Fault{})
	}
	wantRun(t, "break behind a step", m, s.at(code+8), 2, s.at(code+16), 2, Break, fail.Fault{})
	wantRun(t, "no fuel for the break", m, s.at(code+8), 1, s.at(code+12), 1, None, fail.At(api.ErrFuel, code+12))
	for _, fuel := range []int{0, -1, math.MinInt} {
		wantRun(t, "no fuel", m, s, fuel, s, 0, None, fail.At(api.ErrFuel, code))
		wantRun(t, "no fuel, a register 0", m, s.with(0, 7, code), fuel, s, 0, None, fail.At(api.ErrFuel, code))
	}
}

// P7.2: a Trap is no step, and needs no fuel.
func TestRunTrap(t *testing.T) {
	m := programmed(t, inst.Inst{Op: inst.Addi, Rd: rd, Imm: 3}, inst.Inst{Op: inst.Jalr, Rs1: rs1})
	for _, fuel := range []int{math.MinInt, -1, 0, 1, math.MaxInt} {
		for _, pc := range []uint64{api.Traps, api.Traps + 3, math.MaxUint64} {
			s := started(1, 2).at(pc)
			wantRun(t, "at once", m, s, fuel, s, 0, Trap, fail.Fault{})
			wantRun(t, "at once, a register 0", m, s.with(0, 8, pc), fuel, s, 0, Trap, fail.Fault{})
			wantRun(t, "without a space", nil, s, fuel, s, 0, Trap, fail.Fault{})
		}
	}
	s := started(api.Traps+8, 0)
	end := s.with(rd, 3, api.Traps+8)
	wantRun(t, "fuel to spare", m, s, 3, end, 2, Trap, fail.Fault{})
	wantRun(t, "just enough", m, s, 2, end, 2, Trap, fail.Fault{})
	wantRun(t, "one too few", m, s, 1, end.at(code+4), 1, None, fail.At(api.ErrFuel, code+4))
}

// P7.2: beside a fault the state and the count are as they are then.
func TestRunFaults(t *testing.T) {
	m := programmed(t,
		inst.Inst{Op: inst.Addi, Rd: rd, Imm: 3},
		inst.Inst{Op: inst.Sd, Rs1: rs1, Rs2: rd},
		inst.Inst{Op: inst.Sd, Rs1: rs2, Rs2: rd},
	)
	s := started(data, hole-4)
	then := s.with(rd, 3, code+8)
	wantRun(t, "hole", m, s, 10, then, 2, None, fail.At(api.ErrHole, hole))
	if n, f := m.Load(data, 8); n != 3 || !f.OK() {
		t.Error("what was stored ahead of the fault isn't there", n, f)
	}
	wantRun(t, "fuel for the fault", m, s, 3, then, 2, None, fail.At(api.ErrHole, hole))
	wantRun(t, "no fuel for the fault", m, s, 2, then, 2, None, fail.At(api.ErrFuel, code+8))
	for _, pc := range []uint64{code + 2, data, hole, code + 128} {
		wantRun(t, "no fuel is told first", m, s.at(pc), 0, s.at(pc), 0, None, fail.At(api.ErrFuel, pc))
	}
	wantRun(t, "alignment", m, s.at(code+2), 5, s.at(code+2), 0, None, fail.At(api.ErrAlign, code+2))
	wantRun(t, "no code", m, s.at(code+12), 5, s.at(code+12), 0, None, fail.At(api.ErrCode, code+12))
	wantRun(t, "not to be fetched", m, s.at(data), 5, s.at(data), 0, None, fail.At(api.ErrExec, data))
}

// P7.2: a loop ends with its fuel.
func TestRunEndless(t *testing.T) {
	const fuel = 1 << 17
	m := programmed(t, inst.Inst{Op: inst.Addi, Rd: rd, Rs1: rd, Imm: 1}, inst.Inst{Op: inst.Jal, Imm: -4})
	s := started(0, 0).with(rd, 0, code)
	wantRun(t, "even", m, s, fuel, s.with(rd, fuel/2, code), fuel, None, fail.At(api.ErrFuel, code))
	wantRun(t, "odd", m, s, fuel+1, s.with(rd, fuel/2+1, code+4), fuel+1, None, fail.At(api.ErrFuel, code+4))
}

// P7.2: what is stored is what is fetched next.
func TestRunStoredCode(t *testing.T) {
	m := programmed(t, inst.Inst{Op: inst.Sw, Rs1: rs1, Rs2: rs2}, inst.Inst{Op: inst.Ecall})
	m.Protect(code, 1, vmem.W|vmem.X)
	s := started(code+4, uint64(encoded(t, inst.Inst{Op: inst.Ebreak})[0]))
	wantRun(t, "a call that became a break", m, s, 2, s.at(code+8), 2, Break, fail.Fault{})
}

// P7.1, P7.2: whatever word is run with whatever registers.
func FuzzStep(f *testing.F) {
	for o := inst.Op(0); o < inst.Ops; o++ {
		w, _ := inst.Encode(inst.Inst{Op: o})
		f.Add(w, uint64(0), uint64(1))
		f.Add(w|5<<15|7<<7, uint64(data), uint64(1))
		f.Add(w|5<<15|6<<20, uint64(fixed-1), uint64(math.MaxUint64))
		f.Add(w|7<<7|5<<15|1<<31, uint64(1<<63), uint64(2))
	}
	f.Add(uint32(0), uint64(0), uint64(0))
	f.Fuzz(func(t *testing.T, w uint32, a, b uint64) {
		m := space(t, w)
		before := m.Copy()
		s := started(a, b)
		dirty := s
		dirty.X[0] = a
		got, event, fault := Step(m, dirty)
		if got.X[0] != 0 {
			t.Errorf("%08x: register 0 is %d", w, got.X[0])
		}
		if _, ok := inst.Decode(w); !ok && fault != fail.At(api.ErrCode, code) {
			t.Errorf("%08x: %v", w, fault)
		}
		if !fault.OK() && (got != s || event != None || !m.Same(before)) {
			t.Errorf("%08x: %v %d beside %v", w, got, event, fault)
		}
		if got.PC%4 != 0 || event == Trap {
			t.Errorf("%08x: PC %d, event %d", w, got.PC, event)
		}
		again, steps, gotEvent, gotFault := Run(before, dirty, 1)
		if gotFault == fail.At(api.ErrFuel, got.PC) && fault.OK() && event == None && got.PC < api.Traps {
			gotFault = fail.Fault{}
		}
		if gotEvent == Trap && got.PC >= api.Traps {
			gotEvent = None
		}
		if again != got || (steps == 1) != fault.OK() || gotEvent != event || gotFault != fault || !m.Same(before) {
			t.Errorf("%08x: %v %d %d %v, not %v %d %v", w, again, steps, gotEvent, gotFault, got, event, fault)
		}
	})
}
