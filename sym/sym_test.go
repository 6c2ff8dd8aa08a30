package sym

import (
	"encoding/binary"
	"math"
	"math/rand"
	"slices"
	"strings"
	"testing"

	"turnbuckle/api"
	"turnbuckle/fail"
)

// entry of a symbol, byte by byte as the chapter lists them.
func entry(name uint32, info, other byte, section uint16, value, size uint64) string {
	put := binary.LittleEndian
	b := append(put.AppendUint32(nil, name), info, other)
	return string(put.AppendUint64(put.AppendUint64(put.AppendUint16(b, section), value), size))
}

// wantSymbols: bytes are read as these symbols.
func wantSymbols(t *testing.T, what, b, names string, want ...Symbol) {
	t.Helper()
	if got, f := Read(b, names); f != (fail.Fault{}) || !slices.Equal(got, want) {
		t.Errorf("%s: %+v %v, not %+v", what, got, f, want)
	}
}

// wantFault: bytes aren't read, and nothing but the fault is told.
func wantFault(t *testing.T, what, b, names string, e api.Errno, at uint64) {
	t.Helper()
	if got, f := Read(b, names); f != (fail.Fault{Code: e, At: at}) || len(got) != 0 {
		t.Errorf("%s: %+v %q at %d, not %q at %d", what, got, fail.Word(f.Code), f.At, fail.Word(e), at)
	}
}

// The numbers of bindings and visibilities are those of ELF.
func TestNumbers(t *testing.T) {
	if got := [...]int{Local, Global, Weak, Default, Internal, Hidden, Protected}; got != [...]int{0, 1, 2, 0, 1, 2, 3} {
		t.Error(got)
	}
}

// P11.1: the chapter's example.
func TestExample(t *testing.T) {
	b := strings.Repeat("\x00", 24)
	wantSymbols(t, "noughts", b, "\x00", Symbol{})
	wantSymbols(t, "noughts", b, "main\x00", Symbol{Name: "main", Bind: Local, Vis: Default})
}

// P11.1: ordinary symbols, in order.
func TestRead(t *testing.T) {
	names := "\x00main\x00puts\x00"
	b := entry(0, 0, 0, 0, 0, 0) +
		entry(6, 0x12, 0, 0, 0, 0) +
		entry(1, 0x21, 3, 7, 0x1122334455667788, 0x99aabbccddeeff00) +
		entry(3, 0x0f, 0xfe, 0xffff, math.MaxUint64, 1) +
		entry(6, 0x12, 0, 0, 0, 0)
	puts := Symbol{Name: "puts", Bind: Global, Kind: 2}
	wantSymbols(t, "five", b, names,
		Symbol{},
		puts,
		Symbol{Name: "main", Bind: Weak, Kind: 1, Vis: Protected, Defined: true, Value: 0x1122334455667788, Size: 0x99aabbccddeeff00},
		Symbol{Name: "in", Kind: 15, Vis: Hidden, Defined: true, Value: math.MaxUint64, Size: 1},
		puts)
	wantSymbols(t, "none", "", names)
	wantSymbols(t, "none, without names", "", "")
}

// P11.1: each number of the byte of binding and Kind.
func TestBindings(t *testing.T) {
	for info := range 256 {
		b := entry(0, 0, 0, 0, 0, 0) + entry(0, byte(info), 0, 0, 0, 0)
		if bind := info >> 4; bind < 3 {
			wantSymbols(t, "binding", b, "\x00", Symbol{}, Symbol{Bind: bind, Kind: info & 15})
		} else {
			wantFault(t, "binding", b, "\x00", api.ErrForm, 24)
		}
	}
}

// P11.1: each number of the byte of the visibility, of which the upper bits don't matter.
func TestVisibilities(t *testing.T) {
	for other := range 256 {
		wantSymbols(t, "visibility", entry(0, 0x10, byte(other), 0, 0, 0), "\x00", Symbol{Bind: Global, Vis: other & 3})
	}
}

// P11.1: bit by bit, what makes it defined, its Value, its Size.
func TestBits(t *testing.T) {
	for bit := range 64 {
		n := uint64(1) << bit
		wantSymbols(t, "Value", entry(0, 0, 0, 0, n, 0), "\x00", Symbol{Value: n})
		wantSymbols(t, "Size", entry(0, 0, 0, 0, 0, n), "\x00", Symbol{Size: n})
		if bit < 16 {
			wantSymbols(t, "defined", entry(0, 0, 0, uint16(n), 0, 0), "\x00", Symbol{Defined: true})
		}
	}
}

// P11.1: all four bytes tell where a name begins.
func TestNamePlaces(t *testing.T) {
	names := []byte(strings.Repeat("\x00", 1<<24+4))
	for bit := range 25 {
		names[1<<bit] = byte('a' + bit)
	}
	names[3] = 0
	long := string(names)
	for bit := range 32 {
		b := entry(1<<bit, 0, 0, 0, 0, 0)
		switch {
		case bit == 0:
			wantSymbols(t, "place", b, long, Symbol{Name: "ab"})
		case bit < 25:
			wantSymbols(t, "place", b, long, Symbol{Name: string(rune('a' + bit))})
		default:
			wantFault(t, "place", b, long, api.ErrName, 0)
		}
	}
}

// P11.1: how long a name may be, and where it may end.
func TestNames(t *testing.T) {
	one := func(place uint32) string { return entry(place, 0x10, 0, 1, 0, 0) }
	named := func(name string) Symbol { return Symbol{Name: name, Bind: Global, Defined: true} }
	long := strings.Repeat("n", 40)
	for n := range 40 {
		names := "\x00" + long[:n] + "\x00x"
		if n <= 32 {
			wantSymbols(t, "a name", one(1), names, named(long[:n]))
		} else {
			wantFault(t, "too long a name", one(1), names, api.ErrName, 0)
			wantSymbols(t, "its last MaxName bytes", one(uint32(1+n-32)), names, named(long[:32]))
			wantFault(t, "one more than these", one(uint32(n-32)), names, api.ErrName, 0)
		}
		wantFault(t, "not ended", one(1), names[:n+1], api.ErrName, 0)
		wantSymbols(t, "at the end, empty", one(uint32(n+1)), names[:n+2], named(""))
		wantFault(t, "at the end, nothing", one(uint32(n+2)), names[:n+2], api.ErrName, 0)
		wantFault(t, "at the end, not ended", one(uint32(n+2)), names, api.ErrName, 0)
		wantFault(t, "beyond the end", one(uint32(n+4)), names, api.ErrName, 0)
	}
	for _, far := range []uint32{100, 1 << 16, 1 << 31, math.MaxUint32} {
		wantFault(t, "far beyond", one(far), "ab\x00", api.ErrName, 0)
	}
	wantFault(t, "no names", one(0), "", api.ErrName, 0)
	wantSymbols(t, "any bytes", one(0), "\xff \x01\n\x00", named("\xff \x01\n"))
}

// P11.1: lengths that are no multiple of 24, whatever else is wrong.
func TestForm(t *testing.T) {
	wrong := strings.Repeat("\xff", 260*24)
	for _, n := range []int{0, 1, 2, 255, 256, 257, 258} {
		for more := 1; more < 24; more++ {
			wantFault(t, "length", strings.Repeat("\x00", n*24+more), "\x00", api.ErrForm, 0)
			wantFault(t, "length, and all else", wrong[:n*24+more], "", api.ErrForm, 0)
		}
	}
}

// P11.1: how many there may be, whatever else is wrong.
func TestLimit(t *testing.T) {
	var b string
	var want []Symbol
	for i := range 256 {
		b += entry(uint32(i%2), 0x10, 0, 1, uint64(i), uint64(i)<<32)
		want = append(want, Symbol{Name: "a"[i%2:], Bind: Global, Defined: true, Value: uint64(i), Size: uint64(i) << 32})
	}
	wantSymbols(t, "MaxSymbols", b, "a\x00", want...)
	wantFault(t, "one more", b+b[:24], "a\x00", api.ErrLimit, 0)
	wantFault(t, "one more, and wrong ones", b+b[:24], "", api.ErrLimit, 0)
	wantFault(t, "many more", strings.Repeat(b, 300), "a\x00", api.ErrLimit, 0)
	wantFault(t, "just so many, the last one wrong", b[:255*24]+entry(0, 0x30, 0, 0, 0, 0), "a\x00", api.ErrForm, 255*24)
	wantFault(t, "just so many, all wrong", b, "", api.ErrName, 0)
}

// P11.1: of one symbol the name is told ahead of the binding, of two the first one.
func TestFaultsOrder(t *testing.T) {
	const names = "\x00ok\x00open"
	right := entry(1, 0x12, 0, 1, 0, 0)
	name := entry(4, 0x12, 0, 1, 0, 0)
	form := entry(1, 0x32, 0, 1, 0, 0)
	both := entry(99, 0xf2, 0, 1, 0, 0)
	for _, c := range []struct {
		b  string
		e  api.Errno
		at uint64
	}{
		{name, api.ErrName, 0},
		{form, api.ErrForm, 0},
		{both, api.ErrName, 0},
		{right + name, api.ErrName, 24},
		{right + form, api.ErrForm, 24},
		{right + right + both, api.ErrName, 48},
		{name + form, api.ErrName, 0},
		{form + name, api.ErrForm, 0},
		{right + form + both, api.ErrForm, 24},
		{right + both + form, api.ErrName, 24},
		{strings.Repeat(right, 200) + form + name, api.ErrForm, 4800},
	} {
		wantFault(t, "order", c.b, names, c.e, c.at)
	}
}

// P11.2: the bytes, and what Read tells of them, of all that there is.
func TestPut(t *testing.T) {
	names := "\x00" + strings.Repeat("n", 32) + "\x00"
	sections := map[bool]uint16{false: 0, true: 1}
	for bind := range 3 {
		for kind := range 16 {
			for vis := range 4 {
				for defined, section := range sections {
					value, size := uint64(0x8877665544332211)^uint64(kind), uint64(0x0123456789abcdef)^uint64(vis)
					s := Symbol{Name: names[1:33], Bind: bind, Kind: kind, Vis: vis, Defined: defined, Value: value, Size: size}
					got := Put(s, 1)
					if got != entry(1, byte(bind*16+kind), byte(vis), section, value, size) {
						t.Errorf("%+v: %x", s, got)
					}
					wantSymbols(t, "again", got, names, s)
				}
			}
		}
	}
}

// P11.2: all four bytes of the name's place; the name itself doesn't matter, nor does its length.
func TestPutPlace(t *testing.T) {
	for _, place := range []uint32{0, 1, 255, 256, 0x01020304, 0x80000000, math.MaxUint32} {
		want := entry(place, 0x10, 0, 1, 5, 6)
		for _, name := range []string{"", "f", "\x00", strings.Repeat("f", 33)} {
			if got := Put(Symbol{Name: name, Bind: Global, Defined: true, Value: 5, Size: 6}, place); got != want {
				t.Errorf("%q at %d: %x", name, place, got)
			}
		}
	}
	for _, n := range []uint64{0, 1, 1 << 63, math.MaxUint64} {
		if got := Put(Symbol{Value: n, Size: ^n}, 0); got != entry(0, 0, 0, 0, n, ^n) {
			t.Errorf("%d: %x", n, got)
		}
	}
}

// P11.2: each Bind, Kind and Vis that is none, also those that lie in one byte with a right one.
func TestPutNone(t *testing.T) {
	for _, n := range []int{-1, -2, -16, -256, 16, 17, 31, 32, 255, 256, 257, 1 << 16, 1 << 32, 1<<32 + 1, math.MinInt, math.MaxInt} {
		for _, s := range []Symbol{{Bind: n}, {Kind: n}, {Vis: n}, {Bind: n, Kind: -n}, {Bind: 1, Kind: n, Vis: 1, Defined: true}} {
			if got := Put(s, 0); got != "" {
				t.Errorf("%+v: %x", s, got)
			}
		}
	}
	for n := 3; n < 16; n++ {
		if got := Put(Symbol{Bind: n, Defined: true}, 1); got != "" {
			t.Errorf("Bind %d: %x", n, got)
		}
		if got := Put(Symbol{Vis: n, Defined: true}, 1); (got != "") != (n == Protected) {
			t.Errorf("Vis %d: %x", n, got)
		}
	}
}

// P11.3: each of all that there are, in the order Default, Internal, Hidden, Protected.
func TestSeen(t *testing.T) {
	type four [4]bool
	for bind, want := range map[int]struct{ exported, own four }{
		Local:  {four{}, four{true, true, true, true}},
		Global: {four{true, false, false, true}, four{false, true, true, true}},
		Weak:   {four{true, false, false, true}, four{false, true, true, true}},
	} {
		for vis := range 4 {
			for kind := range 16 {
				s := Symbol{Name: "f", Bind: bind, Kind: kind, Vis: vis, Defined: true, Value: 1, Size: 1}
				if s.Exported() != want.exported[vis] || s.Own() != want.own[vis] {
					t.Errorf("%+v: Exported %v, Own %v", s, s.Exported(), s.Own())
				}
				s.Defined = false
				if s.Exported() || s.Own() {
					t.Errorf("%+v: Exported %v, Own %v", s, s.Exported(), s.Own())
				}
			}
		}
	}
	// A binding that there isn't is neither Global nor Weak, nor Local.
	for _, bind := range []int{-1, 3, 15, 16, 17, math.MinInt, math.MaxInt} {
		if s := (Symbol{Bind: bind, Defined: true}); s.Exported() || s.Own() {
			t.Errorf("%+v: Exported %v, Own %v", s, s.Exported(), s.Own())
		}
	}
}

// Rules: an answer is new memory, and the same again.
func TestNewMemory(t *testing.T) {
	b := entry(0, 0x10, 0, 1, 2, 3) + entry(1, 0x20, 0, 0, 4, 5)
	want := []Symbol{{Name: "ab", Bind: Global, Defined: true, Value: 2, Size: 3}, {Name: "b", Bind: Weak, Value: 4, Size: 5}}
	a, _ := Read(b, "ab\x00")
	a[0] = Symbol{}
	_ = append(a[:1], Symbol{Name: "other"})
	wantSymbols(t, "again", b, "ab\x00", want...)
}

// rule of P11.1, written anew: symbols are cut off from the front, and each number is added up from the back.
func rule(b, names string) ([]Symbol, fail.Fault) {
	number := func(s string) (n uint64) {
		for k := len(s) - 1; k >= 0; k-- {
			n = n*256 + uint64(s[k])
		}
		return n
	}
	if len(b)%24 > 0 {
		return nil, fail.Fault{Code: 4}
	}
	if len(b) > 256*24 {
		return nil, fail.Fault{Code: 6}
	}
	var l []Symbol
	for rest := b; rest != ""; rest = rest[24:] {
		ahead := uint64(len(b) - len(rest))
		place := number(rest[:4])
		name, ended := "", false
		if place < uint64(len(names)) {
			name, _, ended = strings.Cut(names[place:], "\x00")
		}
		if !ended || len(name) > 32 {
			return nil, fail.Fault{Code: 25, At: ahead}
		}
		bind := int(rest[4]-rest[4]%16) / 16
		if bind > 2 {
			return nil, fail.Fault{Code: 4, At: ahead}
		}
		l = append(l, Symbol{name, bind, int(rest[4] % 16), int(rest[5] % 4), rest[6:8] != "\x00\x00", number(rest[8:16]), number(rest[16:24])})
	}
	return l, fail.Fault{}
}

// wantRule: Read tells what the rule tells, and Put makes again what it can.
func wantRule(t *testing.T, b, names string) {
	t.Helper()
	got, f := Read(b, names)
	want, wantF := rule(b, names)
	if f != wantF || !slices.Equal(got, want) {
		t.Fatalf("%x, %q: %v %v, not %v %v", b, names, got, f, want, wantF)
	}
	for _, s := range got {
		put := Put(s, 7)
		if again, f := Read(put, "nothing"+s.Name+"\x00"); !f.OK() || len(again) != 1 || again[0] != s {
			t.Fatalf("%+v: put as %x, and read as %+v", s, put, again)
		}
	}
}

// P11.1, P11.2: many symbols by chance, always the same ones.
func TestRule(t *testing.T) {
	r := rand.New(rand.NewSource(11))
	names := "\x00main\x00" + strings.Repeat("x", 34) + "\x00open"
	for range 20000 {
		var b string
		for range r.Intn(5) {
			place, info := r.Intn(len(names)-3), r.Intn(48)
			if r.Intn(8) == 0 {
				place = r.Intn(len(names) + 3)
			}
			if r.Intn(8) == 0 {
				info = r.Intn(256)
			}
			b += entry(uint32(place), byte(info), byte(r.Intn(256)), uint16(r.Intn(3)), r.Uint64(), r.Uint64())
		}
		if r.Intn(16) == 0 {
			b = b[:r.Intn(len(b)+1)]
		}
		wantRule(t, b, names)
	}
}

// P1, P3: whatever the bytes are.
func FuzzRead(f *testing.F) {
	f.Add(strings.Repeat("\x00", 24), "\x00")
	f.Add(entry(1, 0x12, 3, 1, 7, 9)+entry(9, 0x32, 0, 0, 0, 0), "\x00main\x00")
	f.Add(strings.Repeat("\x00", 257*24), "")
	f.Fuzz(func(t *testing.T, b, names string) { wantRule(t, b, names) })
}
