package word

import (
	"math"
	"math/big"
	"testing"
)

// inOrder: the operations with their names, as the chapter counts them from 0 on.
var inOrder = []struct {
	o    Op
	name string
}{
	{Add, "add"},
	{Sub, "sub"},
	{Sll, "sll"},
	{Slt, "slt"},
	{Sltu, "sltu"},
	{Xor, "xor"},
	{Srl, "srl"},
	{Sra, "sra"},
	{Or, "or"},
	{And, "and"},
	{Mul, "mul"},
	{Mulh, "mulh"},
	{Mulhsu, "mulhsu"},
	{Mulhu, "mulhu"},
	{Div, "div"},
	{Divu, "divu"},
	{Rem, "rem"},
	{Remu, "remu"},
	{AddW, "addw"},
	{SubW, "subw"},
	{SllW, "sllw"},
	{SrlW, "srlw"},
	{SraW, "sraw"},
	{MulW, "mulw"},
	{DivW, "divw"},
	{DivuW, "divuw"},
	{RemW, "remw"},
	{RemuW, "remuw"},
}

var noOps = []Op{math.MinInt, -28, -1, Ops, Ops + 1, 255, 256, 1 << 32, math.MaxInt}

// neg: what a number below 0 is modulo 2^64.
func neg(n uint64) uint64 { return -n }

// someNumbers are the edges of both widths, of both kinds, and some between.
func someNumbers() []uint64 {
	var l []uint64
	for _, n := range []uint64{
		0, 1 << 31, 1 << 32, 1 << 33, 1 << 63, 3 << 31, 3 << 62, 1<<63 + 1<<31, 1<<32 + 1<<31,
	} {
		l = append(l, n-2, n-1, n, n+1, n+2)
	}
	return append(l, 7, 31, 32, 33, 63, 64, 65, 95, 96, 128, 1<<16+5, neg(7), neg(31), neg(64), neg(1000003),
		0x0123456789abcdef, 0xfedcba9876543210, 0x5555555555555555, 0xaaaaaaaaaaaaaaaa, 0x00000001ffffffff, 0xffffffff00000000)
}

// P5.1.
func TestName(t *testing.T) {
	if int(Ops) != len(inOrder) {
		t.Errorf("%d operations, not %d", Ops, len(inOrder))
	}
	for i, c := range inOrder {
		if int(c.o) != i || c.o.Name() != c.name {
			t.Errorf("%s has the number %d and the name %q", c.name, c.o, c.o.Name())
		}
	}
	for _, o := range noOps {
		if got := o.Name(); got != "" {
			t.Errorf("%d has the name %q", o, got)
		}
	}
}

// P5.1.
func TestNamed(t *testing.T) {
	for _, c := range inOrder {
		if o, ok := Named(c.name); o != c.o || !ok {
			t.Errorf("Named(%q): %d %v", c.name, o, ok)
		}
	}
	for _, s := range []string{
		"", " ", "add ", " add", "Add", "ADD", "ad", "addd", "addi", "addiw", "addw\x00", "sltw", "xorw", "mulhw", "lui", "\xff",
	} {
		if o, ok := Named(s); o != 0 || ok {
			t.Errorf("Named(%q): %d %v", s, o, ok)
		}
	}
}

// P5.1.
func TestHalf(t *testing.T) {
	for i, c := range inOrder {
		if got, want := c.o.Half(), i >= 18; got != want {
			t.Errorf("Half of %s: %v", c.name, got)
		}
	}
	for _, o := range noOps {
		if o.Half() {
			t.Errorf("Half of %d", o)
		}
	}
}

// P5.1.
func TestDoOfNone(t *testing.T) {
	for _, o := range noOps {
		for _, a := range someNumbers() {
			if got := Do(o, a, math.MaxUint64); got != 0 {
				t.Errorf("Do(%d, %x) = %x", o, a, got)
			}
		}
	}
}

// wantDo holds each case's answer against what is wanted.
func wantDo(t *testing.T, cases []doCase) {
	t.Helper()
	for _, c := range cases {
		if got := Do(c.o, c.a, c.b); got != c.want {
			t.Errorf("Do(%s, %x, %x) = %x, not %x", c.o.Name(), c.a, c.b, got, c.want)
		}
	}
}

type doCase struct {
	o          Op
	a, b, want uint64
}

// P5.2.
func TestDo(t *testing.T) {
	wantDo(t, []doCase{
		{Add, math.MaxUint64, 2, 1},
		{Sub, 1, 2, math.MaxUint64},
		{Sub, 0, 1 << 63, 1 << 63},
		{Xor, 0xff00, 0x0ff0, 0xf0f0},
		{Or, 0xff00, 0x0ff0, 0xfff0},
		{And, 0xff00, 0x0ff0, 0x0f00},
		{Mul, 1 << 32, 1<<32 + 3, 3 << 32},
		{Mul, neg(3), 5, neg(15)},
		{Mul, neg(3), neg(5), 15},
		{Slt, neg(1), 0, 1},
		{Slt, 0, neg(1), 0},
		{Slt, 1 << 63, 1<<63 - 1, 1},
		{Slt, 5, 5, 0},
		{Sltu, neg(1), 0, 0},
		{Sltu, 0, neg(1), 1},
		{Sltu, 1 << 63, 1<<63 - 1, 0},
		{Sltu, 5, 5, 0},
		{Mulh, 1 << 63, 1 << 63, 1 << 62},
		{Mulh, neg(1), 1, math.MaxUint64},
		{Mulh, neg(1), neg(1), 0},
		{Mulhsu, neg(1), 1, math.MaxUint64},
		{Mulhsu, 1, neg(1), 0},
		{Mulhsu, 1 << 63, math.MaxUint64, 1 << 63},
		{Mulhsu, 2, 1 << 63, 1},
		{Mulhu, 1 << 63, 1 << 63, 1 << 62},
		{Mulhu, neg(1), neg(1), neg(2)},
		{Mulhu, neg(1), 1, 0},
	})
}

// P5.2: only b mod 64 counts, whatever is above.
func TestShifts(t *testing.T) {
	wantDo(t, []doCase{
		{Sll, 1, 63, 1 << 63},
		{Sll, 3, 63, 1 << 63},
		{Sll, 5, 64, 5},
		{Sll, 5, 65, 10},
		{Sll, 5, 1 << 63, 5},
		{Sll, 1, math.MaxUint64, 1 << 63},
		{Srl, 1 << 63, 63, 1},
		{Srl, 1 << 63, 64, 1 << 63},
		{Srl, neg(8), 65, 1<<63 - 4},
		{Srl, neg(1), math.MaxUint64, 1},
		{Sra, 1 << 63, 63, math.MaxUint64},
		{Sra, 1 << 63, 64, 1 << 63},
		{Sra, neg(8), 65, neg(4)},
		{Sra, 1<<63 - 1, 62, 1},
		{Sra, neg(1), math.MaxUint64, neg(1)},
	})
}

// P5.3.
func TestDivisions(t *testing.T) {
	wantDo(t, []doCase{
		{Div, neg(7), 2, neg(3)},
		{Div, 7, neg(2), neg(3)},
		{Div, neg(7), neg(2), 3},
		{Div, 1 << 63, neg(1), 1 << 63},
		{Div, 1 << 63, 1, 1 << 63},
		{Div, 1<<63 - 1, neg(1), 1<<63 + 1},
		{Rem, neg(7), 2, neg(1)},
		{Rem, 7, neg(2), 1},
		{Rem, neg(7), neg(2), neg(1)},
		{Rem, 1 << 63, neg(1), 0},
		{Divu, neg(7), 2, 1<<63 - 4},
		{Divu, 1 << 63, neg(1), 0},
		{Remu, neg(7), 2, 1},
		{Remu, 1 << 63, neg(1), 1 << 63},
	})
	for _, a := range someNumbers() {
		wantDo(t, []doCase{
			{Div, a, 0, math.MaxUint64},
			{Divu, a, 0, math.MaxUint64},
			{Rem, a, 0, a},
			{Remu, a, 0, a},
		})
	}
}

// P5.4.
func TestHalves(t *testing.T) {
	wantDo(t, []doCase{
		{AddW, 1<<31 - 1, 1, neg(1 << 31)},
		{AddW, math.MaxUint64, 1, 0},
		{AddW, 5 << 32, 7 << 32, 0},
		{SubW, 0, 1, neg(1)},
		{SubW, 1 << 31, 1, 1<<31 - 1},
		{SllW, 1, 31, neg(1 << 31)},
		{SllW, 1, 32, 1},
		{SllW, 1, 63, neg(1 << 31)},
		{SllW, 3 << 31, 1, 0},
		{SrlW, neg(1), 0, neg(1)},
		{SrlW, neg(1), 32, neg(1)},
		{SrlW, neg(1), 4, 0x0fffffff},
		{SrlW, 1<<32 + 4, 33, 2},
		{SraW, 1 << 31, 31, neg(1)},
		{SraW, 1 << 31, 32, neg(1 << 31)},
		{SraW, 1<<32 + 4, 65, 2},
		{MulW, 1 << 16, 1 << 15, neg(1 << 31)},
		{MulW, 1 << 16, 1 << 16, 0},
		{MulW, neg(3), 5 + 9<<32, neg(15)},
	})
}

// P5.4: what is above the low halves doesn't count, neither in a number nor in what it is divided by.
func TestHalvesDivided(t *testing.T) {
	wantDo(t, []doCase{
		{DivW, neg(7), 2, neg(3)},
		{DivW, 1 << 31, neg(1), neg(1 << 31)},
		{DivW, 1 << 31, 1<<32 - 1, neg(1 << 31)},
		{DivW, 1 << 63, neg(1), 0},
		{DivW, 1 << 63, 1, 0},
		{RemW, neg(7), 2, neg(1)},
		{RemW, 1 << 31, neg(1), 0},
		{RemW, 7, neg(2), 1},
		{DivuW, neg(1), 2, 0x7fffffff},
		{DivuW, neg(1), 1, neg(1)},
		{DivuW, 1 << 31, 1, neg(1 << 31)},
		{DivuW, 1 << 31, neg(1), 0},
		{RemuW, neg(1), neg(2), 1},
		{RemuW, 1 << 31, neg(1), neg(1 << 31)},
		{RemuW, neg(7), 1 << 31, 1<<31 - 7},
	})
	for _, a := range someNumbers() {
		extended := uint64(int64(int32(a)))
		for _, b := range []uint64{0, 1 << 32, 5 << 32, 1 << 63, 0xffffffff00000000} {
			wantDo(t, []doCase{
				{DivW, a, b, math.MaxUint64},
				{DivuW, a, b, math.MaxUint64},
				{RemW, a, b, extended},
				{RemuW, a, b, extended},
			})
		}
	}
}

// unsigned: the number of the lowest bits.
func unsigned(n uint64, width uint) *big.Int {
	return new(big.Int).And(new(big.Int).SetUint64(n), below(width))
}

// below: 2^width - 1.
func below(width uint) *big.Int {
	n := new(big.Int).Lsh(big.NewInt(1), width)
	return n.Sub(n, big.NewInt(1))
}

// signed: the same, less by 2^width, where it isn't below 2^(width - 1).
func signed(n uint64, width uint) *big.Int {
	v := unsigned(n, width)
	if v.Bit(int(width)-1) == 1 {
		v.Sub(v, new(big.Int).Lsh(big.NewInt(1), width))
	}
	return v
}

// number: a great one modulo 2^width, its sign extended to 64 bits.
func number(v *big.Int, width uint) uint64 {
	low := new(big.Int).And(v, below(width)).Uint64()
	return new(big.Int).And(signed(low, width), below(64)).Uint64()
}

// slowly does an operation of that width (by its name without a w) with numbers that have no width at all.
func slowly(name string, a, b uint64, width uint) *big.Int {
	sa, sb := signed(a, width), signed(b, width)
	ua, ub := unsigned(a, width), unsigned(b, width)
	by := uint(b % uint64(width))
	v := new(big.Int)
	one := func(holds bool) *big.Int {
		if holds {
			return v.SetInt64(1)
		}
		return v
	}
	switch name {
	case "add":
		return v.Add(sa, sb)
	case "sub":
		return v.Sub(sa, sb)
	case "sll":
		return v.Lsh(ua, by)
	case "srl":
		return v.Rsh(ua, by)
	case "sra":
		return v.Rsh(sa, by)
	case "slt":
		return one(sa.Cmp(sb) < 0)
	case "sltu":
		return one(ua.Cmp(ub) < 0)
	case "xor":
		return v.Xor(ua, ub)
	case "or":
		return v.Or(ua, ub)
	case "and":
		return v.And(ua, ub)
	case "mul":
		return v.Mul(sa, sb)
	case "mulh":
		return v.Rsh(v.Mul(sa, sb), 64)
	case "mulhsu":
		return v.Rsh(v.Mul(sa, ub), 64)
	case "mulhu":
		return v.Rsh(v.Mul(ua, ub), 64)
	}
	return slowlyDivided(name, sa, sb, ua, ub)
}

// slowlyDivided: the divisions of slowly.
func slowlyDivided(name string, sa, sb, ua, ub *big.Int) *big.Int {
	v := new(big.Int)
	if ub.Sign() == 0 {
		switch name {
		case "div", "divu":
			return v.SetInt64(-1)
		}
		return v.Set(sa)
	}
	switch name {
	case "div":
		return v.Quo(sa, sb)
	case "divu":
		return v.Quo(ua, ub)
	case "rem":
		return v.Rem(sa, sb)
	}
	return v.Rem(ua, ub)
}

// P5.2 to P5.4: every operation, of all pairs of some numbers.
func TestDoHeldAgainstGreatNumbers(t *testing.T) {
	all := someNumbers()
	for i, c := range inOrder {
		name, width := c.name, uint(64)
		if i >= 18 {
			name, width = name[:len(name)-1], 32
		}
		for _, a := range all {
			for _, b := range all {
				want := number(slowly(name, a, b, width), width)
				if got := Do(c.o, a, b); got != want {
					t.Fatalf("Do(%s, %x, %x) = %x, not %x", c.name, a, b, got, want)
				}
			}
		}
	}
}

// P5.2 to P5.4: the same, of whatever numbers a fuzzer finds.
func FuzzDo(f *testing.F) {
	for i := range inOrder {
		f.Add(i, uint64(1)<<63, neg(1))
		f.Add(i, uint64(1)<<31, uint64(0))
	}
	f.Fuzz(func(t *testing.T, i int, a, b uint64) {
		if i < 0 || i >= len(inOrder) {
			if Do(Op(i), a, b) != 0 {
				t.Errorf("Do of none: %d", i)
			}
			return
		}
		name, width := inOrder[i].name, uint(64)
		if i >= 18 {
			name, width = name[:len(name)-1], 32
		}
		if got, want := Do(Op(i), a, b), number(slowly(name, a, b, width), width); got != want {
			t.Errorf("Do(%s, %x, %x) = %x, not %x", inOrder[i].name, a, b, got, want)
		}
	})
}
