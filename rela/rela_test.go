package rela

import (
	"encoding/binary"
	"math"
	"math/big"
	"math/rand"
	"slices"
	"strings"
	"testing"

	"turnbuckle/api"
	"turnbuckle/fail"
)

// highest is the highest bit of a number of four bytes.
const highest = 1 << 31

// entry of a relocation, number by number as the chapter lists them.
func entry(at uint64, kind, place uint32, add uint64) string {
	put := binary.LittleEndian
	return string(put.AppendUint64(put.AppendUint32(put.AppendUint32(put.AppendUint64(nil, at), kind), place), add))
}

// wantRelas: bytes are read as these relocations.
func wantRelas(t *testing.T, what, b string, symbols int, want ...Rela) {
	t.Helper()
	if got, f := Read(b, symbols); f != (fail.Fault{}) || !slices.Equal(got, want) {
		t.Errorf("%s: %+v %v, not %+v", what, got, f, want)
	}
}

// wantFault: bytes aren't read, and nothing but the fault is told.
func wantFault(t *testing.T, what, b string, symbols int, e api.Errno, at uint64) {
	t.Helper()
	if got, f := Read(b, symbols); f != (fail.Fault{Code: e, At: at}) || len(got) != 0 {
		t.Errorf("%s: %+v %q at %d, not %q at %d", what, got, fail.Word(f.Code), f.At, fail.Word(e), at)
	}
}

// The kinds' numbers are the chapter's.
func TestKinds(t *testing.T) {
	if got := [...]int{Word, Relative, Copy, Slot}; got != [...]int{2, 3, 4, 5} {
		t.Error(got)
	}
}

// P15.2: the chapter's example.
func TestExample(t *testing.T) {
	if got := (Rela{Kind: Relative, Add: 8}).Value(65536, 0); got != 65544 {
		t.Error(got)
	}
}

// P15.1: ordinary relocations, in order.
func TestRead(t *testing.T) {
	b := entry(0x1122334455667788, Word, 1, 0x99aabbccddeeff00) +
		entry(8, Relative, 0, math.MaxUint64) +
		entry(math.MaxUint64-7, Copy, 255, 0) +
		entry(0, Slot, 0, 1) +
		entry(8, Relative, 0, math.MaxUint64)
	relative := Rela{At: 8, Kind: Relative, Add: math.MaxUint64}
	wantRelas(t, "five", b, 256,
		Rela{At: 0x1122334455667788, Kind: Word, Sym: 1, Add: 0x99aabbccddeeff00},
		relative,
		Rela{At: math.MaxUint64 - 7, Kind: Copy, Sym: 255},
		Rela{Kind: Slot, Add: 1},
		relative)
	for _, symbols := range []int{math.MinInt, -1, 0, 1, math.MaxInt} {
		wantRelas(t, "none", "", symbols)
	}
}

// P15.1: bit by bit, the address and what is added.
func TestBits(t *testing.T) {
	for bit := range 64 {
		n := uint64(1) << bit
		wantRelas(t, "Add", entry(0, Word, 0, n), 1, Rela{Kind: Word, Add: n})
		if bit < 3 {
			wantFault(t, "At", entry(n, Word, 0, 0), 1, api.ErrAlign, 0)
		} else {
			wantRelas(t, "At", entry(n, Word, 0, 0), 1, Rela{Kind: Word, At: n})
		}
	}
}

// P15.1: lengths that are no multiple of 24, whatever else is wrong.
func TestForm(t *testing.T) {
	wrong := strings.Repeat("\xff", 260*24)
	right := strings.Repeat(entry(0, Relative, 0, 0), 260)
	for _, n := range []int{0, 1, 2, 255, 256, 257, 258} {
		for more := 1; more < 24; more++ {
			wantFault(t, "length", right[:n*24+more], 1, api.ErrForm, 0)
			wantFault(t, "length, and all else", wrong[:n*24+more], -1, api.ErrForm, 0)
		}
	}
	wantRelas(t, "24 bytes", right[:24], 0, Rela{Kind: Relative})
}

// P15.1: how many there may be, whatever else is wrong.
func TestLimit(t *testing.T) {
	var b string
	var want []Rela
	for i := range 256 {
		b += entry(uint64(i)*8, Slot, uint32(i), uint64(i)<<32)
		want = append(want, Rela{At: uint64(i) * 8, Kind: Slot, Sym: i, Add: uint64(i) << 32})
	}
	wantRelas(t, "MaxRelas", b, 256, want...)
	wantFault(t, "one more", b+b[:24], 256, api.ErrLimit, 0)
	wantFault(t, "one more, and wrong ones", b+entry(1, 9, 999, 0), 0, api.ErrLimit, 0)
	wantFault(t, "many more", strings.Repeat(b, 300), 256, api.ErrLimit, 0)
	wantFault(t, "just so many, the last one wrong", b, 255, api.ErrRange, 255*24)
	wantFault(t, "just so many, all wrong", b, 0, api.ErrRange, 0)
}

// P15.1: each Kind, those that are none, and those of which only the lower bytes are one.
func TestReadKinds(t *testing.T) {
	for kind := uint32(0); kind < 300; kind++ {
		for _, above := range []uint32{0, 1 << 8, 1 << 16, 1 << 24, highest, math.MaxUint32 - 511} {
			k := kind | above
			b := entry(0, Word, 0, 0) + entry(16, k, 0, 3)
			if k >= 2 && k <= 5 {
				wantRelas(t, "a kind", b, 1, Rela{Kind: Word}, Rela{At: 16, Kind: int(k), Add: 3})
			} else {
				wantFault(t, "no kind", b, 1, api.ErrReloc, 24)
			}
		}
	}
	wantFault(t, "the greatest one", entry(0, math.MaxUint32, 0, 0), 1, api.ErrReloc, 0)
}

// P15.1: which symbols there are, for each kind.
func TestReadSymbols(t *testing.T) {
	places := []uint32{0, 1, 2, 3, 4, 255, 256, 257, 1 << 16, 1<<16 + 1, 1 << 24, highest - 1, highest, highest + 1, math.MaxUint32 - 1, math.MaxUint32}
	counts := []int{math.MinInt, math.MinInt32, -2, -1, 0, 1, 2, 3, 4, 255, 256, 257, 1 << 16, highest, math.MaxUint32, math.MaxUint32 + 1, 1<<32 + 2, math.MaxInt}
	for _, symbols := range counts {
		for _, place := range places {
			for _, kind := range []uint32{Word, Copy, Slot} {
				b := entry(8, kind, place, 1)
				if int(place) < symbols {
					wantRelas(t, "a symbol", b, symbols, Rela{At: 8, Kind: int(kind), Sym: int(place), Add: 1})
				} else {
					wantFault(t, "no symbol", b, symbols, api.ErrRange, 0)
				}
			}
			b := entry(0, Relative, 0, 0) + entry(8, Relative, place, 1)
			if place == 0 {
				wantRelas(t, "of none", b, symbols, Rela{Kind: Relative}, Rela{At: 8, Kind: Relative, Add: 1})
			} else {
				wantFault(t, "of one", b, symbols, api.ErrForm, 24)
			}
		}
	}
}

// P15.1: addresses with each rest, for each kind.
func TestAlign(t *testing.T) {
	for _, kind := range []uint32{Word, Relative, Copy, Slot} {
		for _, from := range []uint64{0, 8, 248, 256, 1 << 32, 1 << 63, math.MaxUint64 - 7} {
			wantRelas(t, "a multiple", entry(from, kind, 0, 5), 1, Rela{At: from, Kind: int(kind), Add: 5})
			for rest := uint64(1); rest < 8; rest++ {
				wantFault(t, "a rest", entry(from+rest, kind, 0, 5), 1, api.ErrAlign, 0)
			}
		}
	}
	wantRelas(t, "what is added may be any", entry(0, Slot, 0, 7), 1, Rela{Kind: Slot, Add: 7})
}

// P15.1: of one relocation the Kind is told ahead of the symbol, the symbol ahead of the address; of two the first one.
func TestFaultsOrder(t *testing.T) {
	right := entry(8, Word, 1, 0)
	kind, form, symbol, align := entry(8, 6, 1, 0), entry(8, Relative, 1, 0), entry(8, Copy, 2, 0), entry(9, Slot, 1, 0)
	for _, c := range []struct {
		b  string
		e  api.Errno
		at uint64
	}{
		{kind, api.ErrReloc, 0},
		{entry(8, 1, 2, 0), api.ErrReloc, 0},
		{entry(9, 0, 1, 0), api.ErrReloc, 0},
		{entry(9, 6, 2, 0), api.ErrReloc, 0},
		{symbol, api.ErrRange, 0},
		{entry(9, Word, 2, 0), api.ErrRange, 0},
		{form, api.ErrForm, 0},
		{entry(8, Relative, 2, 0), api.ErrForm, 0},
		{entry(9, Relative, 1, 0), api.ErrForm, 0},
		{entry(9, Relative, 2, 0), api.ErrForm, 0},
		{align, api.ErrAlign, 0},
		{entry(9, Relative, 0, 0), api.ErrAlign, 0},
		{kind + symbol, api.ErrReloc, 0},
		{symbol + kind, api.ErrRange, 0},
		{align + kind, api.ErrAlign, 0},
		{align + form, api.ErrAlign, 0},
		{form + kind, api.ErrForm, 0},
		{right + align + symbol, api.ErrAlign, 24},
		{right + right + form, api.ErrForm, 48},
		{right + right + entry(9, 9, 9, 9) + kind, api.ErrReloc, 48},
		{strings.Repeat(right, 200) + symbol + kind, api.ErrRange, 4800},
		{strings.Repeat(right, 255) + align, api.ErrAlign, 255 * 24},
	} {
		wantFault(t, "order", c.b, 2, c.e, c.at)
	}
}

// P15.2: the bytes, and what Read tells of them.
func TestPut(t *testing.T) {
	for kind := Word; kind <= Slot; kind++ {
		for _, place := range []int{0, 1, 255, 256, 0x01020304, highest, math.MaxUint32} {
			for _, at := range []uint64{0, 8, 0x1122334455667788, math.MaxUint64 - 7} {
				if kind == Relative {
					place = 0
				}
				x := Rela{At: at, Kind: kind, Sym: place, Add: at ^ 0x0123456789abcdef}
				got := Put(x)
				if got != entry(at, uint32(kind), uint32(place), x.Add) {
					t.Errorf("%+v: %x", x, got)
				}
				wantRelas(t, "again", got, math.MaxUint32+1, x)
			}
		}
	}
}

// P15.2: each Kind and Sym that goes into four bytes is put, whether Read takes it or not; none of the others is.
func TestPutBounds(t *testing.T) {
	for _, n := range []int{0, 1, 2, 6, 255, 256, 1 << 16, math.MaxInt32, highest, math.MaxUint32 - 1, math.MaxUint32} {
		for _, x := range []Rela{{At: 9, Kind: n}, {Kind: Relative, Sym: n, Add: 1}, {At: 1, Kind: n, Sym: n, Add: math.MaxUint64}} {
			if got := Put(x); got != entry(x.At, uint32(x.Kind), uint32(x.Sym), x.Add) {
				t.Errorf("%+v: %x", x, got)
			}
		}
	}
	for _, n := range []int{-1, -2, -8, -256, math.MinInt32, math.MinInt32 - 1, -math.MaxUint32, math.MinInt, math.MaxUint32 + 1, 1<<32 + 1, 1<<32 + 2, 1 << 33, 1 << 62, math.MaxInt} {
		for _, x := range []Rela{{At: 8, Kind: n}, {Kind: Word, Sym: n}, {Kind: n, Sym: n}, {Kind: n, Sym: math.MaxUint32}, {Kind: math.MaxUint32, Sym: n}} {
			if got := Put(x); got != "" {
				t.Errorf("%+v: %x", x, got)
			}
		}
	}
}

// P15.2: what each kind writes, and that it hangs on nothing else.
func TestValue(t *testing.T) {
	numbers := []uint64{0, 1, 8, 65536, 1 << 32, 1<<63 - 1, 1 << 63, 1<<63 + 1, math.MaxUint64 - 7, math.MaxUint64}
	round := new(big.Int).Lsh(big.NewInt(1), 64)
	sum := func(a, b uint64) uint64 {
		s := new(big.Int).Add(new(big.Int).SetUint64(a), new(big.Int).SetUint64(b))
		return s.Mod(s, round).Uint64()
	}
	for _, base := range numbers {
		for _, symbol := range numbers {
			for _, add := range numbers {
				for kind, want := range map[int]uint64{
					Word:     sum(symbol, add),
					Relative: sum(base, add),
					Copy:     0,
					Slot:     sum(symbol, add),
				} {
					for _, x := range []Rela{{Kind: kind, Add: add}, {At: 9, Kind: kind, Sym: 7, Add: add}, {At: 1 << 63, Kind: kind, Sym: -1, Add: add}} {
						if got := x.Value(base, symbol); got != want {
							t.Errorf("%+v at %d, symbol %d: %d, not %d", x, base, symbol, got, want)
						}
					}
				}
			}
		}
	}
}

// P15.2: what is no kind writes 0.
func TestValueNone(t *testing.T) {
	for _, kind := range []int{0, 1, 6, 7, 8, -1, -2, -3, -5, 256 + Word, 1<<32 + Word, 1<<32 + Relative, 1<<32 + Slot, math.MinInt, math.MinInt + Word, math.MaxInt} {
		if got := (Rela{At: 8, Kind: kind, Sym: 1, Add: 5}).Value(65536, 70000); got != 0 {
			t.Errorf("%d: %d", kind, got)
		}
	}
}

// Rules: an answer is new memory, and the same again.
func TestNewMemory(t *testing.T) {
	b := entry(8, Word, 1, 2) + entry(16, Slot, 0, 3)
	a, _ := Read(b, 2)
	a[0] = Rela{}
	_ = append(a[:1], Rela{Add: 9})
	wantRelas(t, "again", b, 2, Rela{At: 8, Kind: Word, Sym: 1, Add: 2}, Rela{At: 16, Kind: Slot, Add: 3})
}

// rule of P15.1, written anew: relocations are cut off from the front, and each number is added up from the back.
func rule(b string, symbols int) ([]Rela, fail.Fault) {
	number := func(s string) (n uint64) {
		for k := len(s) - 1; k >= 0; k-- {
			n = n*256 + uint64(s[k])
		}
		return n
	}
	if len(b)%24 > 0 {
		return nil, fail.Fault{Code: 4}
	}
	if len(b) > 256*24 {
		return nil, fail.Fault{Code: 6}
	}
	var l []Rela
	for rest := b; rest != ""; rest = rest[24:] {
		x := Rela{number(rest[:8]), int(number(rest[8:12])), int(number(rest[12:16])), number(rest[16:24])}
		var e api.Errno
		if x.At&7 != 0 {
			e = 13
		}
		if x.Kind == 3 {
			if x.Sym > 0 {
				e = 4
			}
		} else if x.Sym >= symbols {
			e = 5
		}
		if !slices.Contains([]int{2, 3, 4, 5}, x.Kind) {
			e = 22
		}
		if e != 0 {
			return nil, fail.Fault{Code: e, At: uint64(len(b) - len(rest))}
		}
		l = append(l, x)
	}
	return l, fail.Fault{}
}

// wantRule: Read tells what the rule tells, and Put makes the bytes again.
func wantRule(t *testing.T, b string, symbols int) {
	t.Helper()
	got, f := Read(b, symbols)
	want, wantF := rule(b, symbols)
	if f != wantF || !slices.Equal(got, want) {
		t.Fatalf("%x of %d: %v %v, not %v %v", b, symbols, got, f, want, wantF)
	}
	var again strings.Builder
	for _, x := range got {
		again.WriteString(Put(x))
	}
	if f.OK() && again.String() != b {
		t.Fatalf("%x: put as %x", b, again.String())
	}
}

// P15.1, P15.2: many relocations by chance, always the same ones.
func TestRule(t *testing.T) {
	r := rand.New(rand.NewSource(15))
	for range 20000 {
		symbols := r.Intn(6) - 1
		var b string
		for range r.Intn(6) {
			at, kind, place := uint64(r.Intn(64))*8, 2+r.Intn(4), 0
			if kind != Relative && symbols > 0 {
				place = r.Intn(symbols)
			}
			switch r.Intn(16) {
			case 0:
				at = r.Uint64()
			case 1:
				kind = r.Intn(8)
			case 2:
				place = r.Intn(6)
			}
			b += entry(at, uint32(kind), uint32(place), r.Uint64())
		}
		if r.Intn(16) == 0 {
			b = b[:r.Intn(len(b)+1)]
		}
		wantRule(t, b, symbols)
	}
}

// P1, P3: whatever the bytes are.
func FuzzRead(f *testing.F) {
	f.Add(entry(8, Word, 1, 2)+entry(8, Relative, 0, 2), 2)
	f.Add(entry(9, 9, 9, 9), 0)
	f.Add(strings.Repeat("\x00", 257*24), -1)
	f.Fuzz(wantRule)
}
