package head

import (
	"encoding/binary"
	"math"
	"math/big"
	"reflect"
	"strings"
	"testing"

	"turnbuckle/api"
	"turnbuckle/fail"
)

// other is a kind of segments that has no name here.
const other = 0x70000003

// file that a test makes: its zero value is a header alone. The bytes that don't matter are none of them 0.
type file struct {
	magic string // empty: the right one
	form  [5]uint64
	entry uint64
	heads uint64 // 0: behind the header
	count int    // 0: as many as there are segments
	segs  []Segment
	rest  string // behind the program headers
	size  int    // at least so many bytes
}

// text of a file.
func (f file) text() string {
	b := []byte("\x7fELF\x02\x01\x01")
	if f.magic != "" {
		b = []byte(f.magic)
	}
	fill := func(n int) { b = append(b, strings.Repeat("\xa5", n)...) }
	put := func(n uint64, size int) { b = append(b, binary.LittleEndian.AppendUint64(nil, n)[:size]...) }
	right := [5]uint64{3, 243, 1, 64, 56}
	for i, n := range f.form {
		if n != 0 {
			right[i] = n
		}
	}
	heads, count := f.heads, f.count
	if heads == 0 {
		heads = 64
	}
	if count == 0 {
		count = len(f.segs)
	}
	fill(9)
	put(right[0], 2)
	put(right[1], 2)
	put(right[2], 4)
	put(f.entry, 8)
	put(heads, 8)
	fill(12)
	put(right[3], 2)
	put(right[4], 2)
	put(uint64(count), 2)
	fill(6)
	for _, g := range f.segs {
		b = append(b, segmentText(g)...)
	}
	b = append(b, f.rest...)
	if len(b) < f.size {
		fill(f.size - len(b))
	}
	return string(b)
}

// segmentText: a program header; above the bits of what may be done there are others.
func segmentText(g Segment) string {
	b := binary.LittleEndian.AppendUint32(nil, g.Kind)
	b = binary.LittleEndian.AppendUint32(b, uint32(g.Perm)|0xfffffff8)
	for _, n := range []uint64{g.Off, g.Addr, 0xa5a5a5a5a5a5a5a5, g.File, g.Mem, 0xa5a5a5a5a5a5a5a5} {
		b = binary.LittleEndian.AppendUint64(b, n)
	}
	return string(b)
}

// wantRead: a file is read, and has these segments.
func wantRead(t *testing.T, what, s string, entry uint64, segs []Segment) {
	t.Helper()
	i, f := Read(s)
	if f != (fail.Fault{}) || i.Bytes != s || i.Entry != entry || !reflect.DeepEqual(i.Segments, segs) {
		t.Errorf("%s: %d %+v %v", what, i.Entry, i.Segments, f)
	}
}

// wantFault: a file isn't read, and nothing but the fault is told.
func wantFault(t *testing.T, what, s string, e api.Errno, at uint64) {
	t.Helper()
	i, f := Read(s)
	if f != (fail.Fault{Code: e, At: at}) {
		t.Errorf("%s: %q at %d, not %q at %d", what, fail.Word(f.Code), f.At, fail.Word(e), at)
	}
	if i.Bytes != "" || i.Entry != 0 || len(i.Segments) != 0 {
		t.Errorf("%s: beside a fault %+v", what, i)
	}
}

// small: a Load of a page that has no bytes in the file.
var small = Segment{Kind: Load, Perm: 4, Addr: 256, Mem: 1}

// P9.1: the constants are those of ELF.
func TestKinds(t *testing.T) {
	if Load != 1 || Dynamic != 2 || Relro != 1685382482 {
		t.Error(Load, Dynamic, Relro)
	}
}

// P9.1: the chapter's example, whatever tells where no headers are.
func TestExample(t *testing.T) {
	s := file{}.text()
	if len(s) != 64 {
		t.Fatal(len(s))
	}
	wantFault(t, "without program headers", s, api.ErrNone, 0)
	wantFault(t, "without program headers, at the beginning", s[:32]+strings.Repeat("\x00", 8)+s[40:], api.ErrNone, 0)
}

// P9.1: an ordinary file.
func TestRead(t *testing.T) {
	segs := []Segment{
		{Kind: Relro, Perm: 4, Off: 300, Addr: 777, File: 3, Mem: 0},
		{Kind: Load, Perm: 5, Off: 0, Addr: 0, File: 257, Mem: 257},
		{Kind: other, Perm: 0, Off: 400, Addr: math.MaxUint64, File: 0, Mem: math.MaxUint64},
		{Kind: Load, Perm: 6, Off: 1, Addr: 512, File: 10, Mem: 1000},
		{Kind: Dynamic, Perm: 7, Off: 2, Addr: 513, File: 9, Mem: 8},
		{Kind: Load, Perm: 1, Off: 500, Addr: 1<<30 - 256, File: 0, Mem: 256},
		{Kind: 0, Perm: 2, Off: 3, Addr: 4, File: 5, Mem: 6},
	}
	wantRead(t, "behind the header", file{entry: math.MaxUint64 - 1, segs: segs, size: 600}.text(), math.MaxUint64-1, segs)
	// The program headers may be anywhere, also at an odd place, and up to the file's end.
	moved := file{entry: 77, heads: 601, count: len(segs), size: 601}.text()
	for _, g := range segs {
		moved += segmentText(g)
	}
	wantRead(t, "at the end", moved, 77, segs)
	wantFault(t, "at the end, of which a byte is missing", moved[:len(moved)-1], api.ErrShort, 0)
}

// P9.1: each byte of the header, bit by bit: those that must be so, those that may be any, those that don't matter.
func TestHeaderBytes(t *testing.T) {
	segs := []Segment{small}
	s := file{entry: 0x0102030405060708, segs: segs}.text()
	for at := range 64 {
		for bit := range 8 {
			b := []byte(s)
			b[at] ^= 1 << bit
			changed := string(b)
			switch {
			case at < 7:
				wantFault(t, "magic", changed, api.ErrMagic, 0)
			case at >= 16 && at < 24 || at >= 52 && at < 56:
				wantFault(t, "form", changed, api.ErrForm, 0)
			case at >= 24 && at < 32:
				wantRead(t, "entry", changed, 0x0102030405060708^1<<(8*(at-24)+bit), segs)
			case at >= 32 && at < 40 || at == 56 || at == 57:
				if i, f := Read(changed); f.OK() && len(i.Segments) == 1 {
					t.Errorf("the byte %d, bit %d doesn't matter", at, bit)
				}
			default:
				wantRead(t, "doesn't matter", changed, 0x0102030405060708, segs)
			}
		}
	}
}

// P9.1: the fixed numbers are told apart by all their bytes, and from those of other files.
func TestForm(t *testing.T) {
	for i, numbers := range [][]uint64{
		{1, 2, 4, 0x0103, 0x0300},
		{62, 183, 242, 244, 0xf300, 0x01f3},
		{2, 0x0101, 0x01000000, 0x01000001},
		{52, 63, 65, 0x4000},
		{32, 55, 57, 64, 0x3800},
	} {
		for _, n := range numbers {
			f := file{segs: []Segment{small}}
			f.form[i] = n
			wantFault(t, "form", f.text(), api.ErrForm, 0)
		}
	}
}

// P9.1: files of each length.
func TestLengths(t *testing.T) {
	segs := []Segment{small, {Kind: other, Off: 176, File: 24}}
	s := file{segs: segs, size: 200}.text()
	for n := range len(s) {
		switch {
		case n < 176:
			wantFault(t, "cut", s[:n], api.ErrShort, 0)
		default:
			wantFault(t, "cut", s[:n], api.ErrShort, 120)
		}
		if n < 64 {
			wantFault(t, "wrong, and short", strings.Repeat("\x00", n), api.ErrShort, 0)
		}
	}
	wantRead(t, "just so long", s, 0, segs)
	f := file{segs: segs, size: 65536}
	wantRead(t, "of MaxFile", f.text(), 0, segs)
	f.size++
	wantFault(t, "too long", f.text(), api.ErrLimit, 0)
	wantFault(t, "wrong, and too long", strings.Repeat("\x00", 65537), api.ErrLimit, 0)
	wantFault(t, "wrong, of MaxFile", strings.Repeat("\x00", 65536), api.ErrMagic, 0)
}

// P9.1: how many program headers there may be.
func TestCount(t *testing.T) {
	var segs []Segment
	for k := range 16 {
		segs = append(segs, Segment{Kind: Load, Addr: uint64(k) * 256, Mem: 256})
	}
	f := file{segs: segs}
	wantRead(t, "MaxHeads", f.text(), 0, segs)
	f.segs = append(f.segs, Segment{Kind: other})
	wantFault(t, "one more", f.text(), api.ErrLimit, 0)
	for _, count := range []int{17, 18, 255, 256, 0x1000, 65535} {
		wantFault(t, "too many, not there", file{segs: segs, count: count, heads: math.MaxUint64}.text(), api.ErrLimit, 0)
	}
	wantFault(t, "just so many that they may be, not there", file{segs: segs[:15], count: 16}.text(), api.ErrShort, 0)
	// What stands behind the last program header is none.
	wantRead(t, "fewer than there might be", file{segs: segs, count: 3}.text(), 0, segs[:3])
}

// P9.1: where the program headers aren't all there; at the greatest places their end goes round.
func TestHeadsThere(t *testing.T) {
	segs := []Segment{small, {Kind: other}}
	for _, heads := range []uint64{65, 120, 176, 177, 1 << 16, 1 << 31, 1 << 32, 1<<63 - 1, 1 << 63, 1<<64 - 113, 1<<64 - 112, 1<<64 - 111, 1<<64 - 57, 1<<64 - 56, 1<<64 - 55, 1<<64 - 48, 1<<64 - 1} {
		wantFault(t, "not there", file{heads: heads, segs: segs}.text(), api.ErrShort, 0)
	}
	// Of none likewise, by layer 1's Part.
	wantFault(t, "none at the end", file{heads: 64}.text(), api.ErrNone, 0)
	wantFault(t, "none beyond the end", file{heads: 65}.text(), api.ErrShort, 0)
	wantFault(t, "none at the last place", file{heads: math.MaxUint64}.text(), api.ErrShort, 0)
}

// wrongLoads of a file of 1024 bytes, behind a Load from 256 up to 612, by the order of their faults: some have later faults, too. The last
// ones have none.
var wrongLoads = []struct {
	e    api.Errno
	segs []Segment
}{
	{api.ErrAlign, []Segment{
		{Addr: 1025, Mem: 1},
		{Addr: 1024 + 128, Mem: 1},
		{Addr: 1, Mem: 1},
		{Addr: math.MaxUint64, Mem: 1},
		{Addr: 1025, Mem: 0},
		{Addr: 1025, Mem: 4, File: 5},
		{Addr: 1<<30 + 1, Mem: 1},
		{Addr: 1<<30 - 1, Mem: 1},
		{Addr: 1025, Mem: 2000, File: 2000},
		{Addr: 257, Mem: 1},
		{Addr: 255, Mem: 0, File: 1 << 63, Off: 1 << 63},
	}},
	{api.ErrForm, []Segment{
		{Addr: 1024, Mem: 0},
		{Addr: 1024, Mem: 4, File: 5},
		{Addr: 1024, Mem: 0, File: 1},
		{Addr: 1024, Mem: 1<<63 - 1, File: 1 << 63},
		{Addr: 1024, Mem: math.MaxUint64 - 1, File: math.MaxUint64},
		{Addr: 1 << 30, Mem: 0},
		{Addr: 1<<30 + 256, Mem: 0},
		{Addr: 1 << 40, Mem: 1, File: 2},
		{Addr: 1024, Mem: 1500, File: 2000},
		{Addr: 1024, Mem: 0, Off: 1025},
		{Addr: 256, Mem: 0},
		{Addr: 0, Mem: 0},
		{Addr: 1<<64 - 256, Mem: 0, File: 1 << 63, Off: 1 << 63},
	}},
	{api.ErrRange, []Segment{
		{Addr: 1 << 30, Mem: 1},
		{Addr: 1<<30 - 256, Mem: 257},
		{Addr: 1024, Mem: 1<<30 - 1023},
		{Addr: 1024, Mem: 1 << 30},
		{Addr: 1024, Mem: math.MaxUint64},
		{Addr: 1024, Mem: math.MaxUint64, File: math.MaxUint64},
		{Addr: 1024, Mem: 1<<64 - 1024},
		{Addr: 1024, Mem: 1<<64 - 1023},
		{Addr: 1<<64 - 256, Mem: 256},
		{Addr: 1<<64 - 256, Mem: 257},
		{Addr: 1 << 63, Mem: 1 << 63},
		{Addr: 1 << 31, Mem: 1},
		{Addr: 1<<32 + 1024, Mem: 1},
		{Addr: 1024, Mem: 1<<32 + 1},
		{Addr: 1 << 30, Mem: 1, Off: 1025},
		{Addr: 1 << 30, Mem: 2000, File: 2000},
		{Addr: 256, Mem: 1 << 30},
		{Addr: 0, Mem: 1<<30 + 1, File: 1<<30 + 1},
	}},
	{api.ErrShort, []Segment{
		{Addr: 1024, Mem: 2000, File: 1025},
		{Addr: 1024, Mem: 2000, File: 1, Off: 1024},
		{Addr: 1024, Mem: 2000, File: 513, Off: 512},
		{Addr: 1024, Mem: 2000, File: 0, Off: 1025},
		{Addr: 1024, Mem: 2000, File: 0, Off: math.MaxUint64},
		{Addr: 1024, Mem: 2000, File: 1, Off: math.MaxUint64},
		{Addr: 1024, Mem: 2000, File: 2000, Off: 1<<64 - 2000},
		{Addr: 1024, Mem: 2000, File: 1500, Off: 1<<64 - 1000},
		{Addr: 1024, Mem: 2000, File: 1, Off: 1 << 32},
		{Addr: 1024, Mem: 2000, File: 1, Off: 1 << 63},
		{Addr: 1024, Mem: 1<<30 - 1024, File: 1<<30 - 1024},
		{Addr: 256, Mem: 1, File: 1, Off: 1024},
		{Addr: 0, Mem: 2000, File: 2000},
	}},
	{api.ErrMapped, []Segment{
		{Addr: 512, Mem: 1},
		{Addr: 512, Mem: 1000, File: 1000},
		{Addr: 256, Mem: 356},
		{Addr: 256, Mem: 1<<30 - 256},
		{Addr: 0, Mem: 1},
		{Addr: 0, Mem: 256},
		{Addr: 0, Mem: 257},
		{Addr: 0, Mem: 1 << 30, File: 1024},
	}},
	{api.OK, []Segment{
		{Addr: 768, Mem: 1},
		{Addr: 1024, Mem: 1, File: 1, Off: 1023},
		{Addr: 1024, Mem: 1, File: 0, Off: 1024},
		{Addr: 1024, Mem: 1024, File: 1024},
		{Addr: 1024, Mem: 512, File: 512, Off: 512},
		{Addr: 1<<30 - 256, Mem: 256},
		{Addr: 1<<30 - 256, Mem: 255},
		{Addr: 768, Mem: 1<<30 - 768},
	}},
}

// P9.1: each fault of a Load, at its place; the one that is named first, where there are several.
func TestLoads(t *testing.T) {
	ahead := Segment{Kind: Load, Perm: 5, Off: 10, Addr: 256, File: 100, Mem: 356}
	for _, c := range wrongLoads {
		for _, g := range c.segs {
			g.Kind, g.Perm = Load, 6
			what := fail.At(c.e, g.Addr).Text()
			segs := []Segment{ahead, {Kind: other, Addr: 5000, Mem: 5000}, g}
			s := file{segs: segs, size: 1024}.text()
			if c.e == api.OK {
				wantRead(t, what, s, 0, segs)
				continue
			}
			wantFault(t, what, s, c.e, 64+2*56)
			// The first one that is wrong is told, though a later one's fault is named first.
			worst := Segment{Kind: Load, Addr: 3, Mem: 0, File: 2000}
			wantFault(t, what+" first", file{segs: append(segs, worst), size: 1024}.text(), c.e, 64+2*56)
			// The place is the program header's, wherever that is.
			moved := file{heads: 961, count: 1, size: 961}.text() + segmentText(g)
			if moved += strings.Repeat("\x00", 1024-len(moved)); c.e != api.ErrMapped {
				wantFault(t, what+" moved", moved, c.e, 961)
			}
		}
	}
}

// P9.1: of the other kinds only what is in the file matters.
func TestOthers(t *testing.T) {
	for _, kind := range []uint32{0, Dynamic, 3, Relro, other, 257, 1 << 24, math.MaxUint32} {
		for _, c := range wrongLoads {
			for _, g := range c.segs {
				g.Kind, g.Perm = kind, 3
				segs := []Segment{{Kind: Load, Addr: 256, Mem: 356}, g}
				s := file{segs: segs, size: 1024}.text()
				sum := new(big.Int).Add(new(big.Int).SetUint64(g.Off), new(big.Int).SetUint64(g.File))
				if sum.Cmp(big.NewInt(1024)) <= 0 {
					wantRead(t, "another kind", s, 0, segs)
				} else {
					wantFault(t, "another kind", s, api.ErrShort, 120)
				}
			}
		}
	}
}

// P9.1: a Load that is ahead of all others may be anywhere; one that isn't, behind all of them, not only behind the last page of one.
func TestMapped(t *testing.T) {
	load := func(addr, mem uint64) Segment { return Segment{Kind: Load, Addr: addr, Mem: mem} }
	for _, c := range []struct {
		segs  []Segment
		wrong int // which one's fault is ErrMapped; below 0: none's
	}{
		{[]Segment{load(0, 256), load(256, 256)}, -1},
		{[]Segment{load(0, 257), load(256, 256)}, 1},
		{[]Segment{load(0, 257), load(512, 256)}, -1},
		{[]Segment{load(0, 512), load(512, 256)}, -1},
		{[]Segment{load(0, 513), load(512, 256)}, 1},
		{[]Segment{load(0, 1), load(0, 1)}, 1},
		{[]Segment{load(512, 1), load(0, 1)}, 1},
		{[]Segment{load(512, 1), load(0, 1), load(256, 1)}, 1},
		{[]Segment{load(0, 1), load(1024, 300), load(256, 1)}, 2},
		{[]Segment{load(0, 1), load(1024, 300), load(1280, 1)}, 2},
		{[]Segment{load(0, 1), load(1024, 300), load(1536, 1)}, -1},
		{[]Segment{load(1<<30-256, 1)}, -1},
		{[]Segment{load(1<<30-256, 1), load(1<<30-256, 1)}, 1},
		{[]Segment{load(0, 1<<30-256), load(1<<30-256, 256)}, -1},
		{[]Segment{load(0, 1<<30-255), load(1<<30-256, 256)}, 1},
	} {
		s := file{segs: c.segs}.text()
		if c.wrong < 0 {
			wantRead(t, "apart", s, 0, c.segs)
		} else {
			wantFault(t, "not apart", s, api.ErrMapped, 64+56*uint64(c.wrong))
		}
	}
}

// P9.1: ErrNone comes last.
func TestNoLoad(t *testing.T) {
	none := []Segment{{Kind: Dynamic, Addr: 256, Mem: 256}, {Kind: Relro}, {Kind: 0, Mem: 1}}
	wantFault(t, "no Load", file{segs: none, size: 600}.text(), api.ErrNone, 0)
	none[2].Off = 601
	wantFault(t, "no Load, and short", file{segs: none, size: 600}.text(), api.ErrShort, 64+2*56)
}

// P9.1: of the faults of a whole file any two at once, the first one in order.
func TestOrder(t *testing.T) {
	faults := []struct {
		e   api.Errno
		at  uint64
		set func(*file)
	}{
		{api.ErrLimit, 0, func(f *file) { f.size = 65537 }},
		{api.ErrMagic, 0, func(f *file) { f.magic = "\x7fELF\x02\x01\x02" }},
		{api.ErrForm, 0, func(f *file) { f.form[4] = 55 }},
		{api.ErrLimit, 0, func(f *file) { f.count = 17 }},
		{api.ErrShort, 0, func(f *file) { f.heads = math.MaxUint64 }},
		{api.ErrAlign, 64, func(f *file) { f.segs[0].Kind, f.segs[0].Addr = Load, 1 }},
		{api.ErrForm, 120, func(f *file) { f.segs[1].Kind, f.segs[1].File, f.segs[1].Mem = Load, 2, 1 }},
		{api.ErrNone, 0, func(f *file) {}},
	}
	for i, a := range faults {
		for _, b := range faults[i:] {
			f := file{segs: []Segment{{Kind: other}, {Kind: other}}}
			a.set(&f)
			b.set(&f)
			wantFault(t, "two at once", f.text(), a.e, a.at)
		}
	}
	for _, b := range faults[1:3] {
		f := file{}
		b.set(&f)
		wantFault(t, "short, and more", f.text()[:63], api.ErrShort, 0)
	}
}

// judged: what P9.1 says of a file whose length and header are right, with numbers of any size.
func judged(s string) (api.Errno, uint64) {
	get := func(at uint64, size int) *big.Int {
		n := new(big.Int)
		for k := size - 1; k >= 0; k-- {
			n.Add(n.Lsh(n, 8), big.NewInt(int64(s[int(at)+k])))
		}
		return n
	}
	sum := func(a, b *big.Int) *big.Int { return new(big.Int).Add(a, b) }
	all, page := big.NewInt(int64(len(s))), big.NewInt(256)
	heads, count := get(32, 8), get(56, 2)
	if count.Cmp(big.NewInt(16)) > 0 {
		return api.ErrLimit, 0
	}
	if sum(heads, new(big.Int).Mul(count, big.NewInt(56))).Cmp(all) > 0 {
		return api.ErrShort, 0
	}
	behind := uint64(0) // the first page behind all those of the Loads
	for k := range count.Uint64() {
		at := heads.Uint64() + 56*k
		load := get(at, 4).Cmp(big.NewInt(1)) == 0
		off, addr, inFile, inMem := get(at+8, 8), get(at+16, 8), get(at+32, 8), get(at+40, 8)
		end := sum(addr, inMem)
		switch {
		case load && new(big.Int).Mod(addr, page).Sign() != 0:
			return api.ErrAlign, at
		case load && (inMem.Sign() == 0 || inMem.Cmp(inFile) < 0):
			return api.ErrForm, at
		case load && end.Cmp(big.NewInt(1<<30)) > 0:
			return api.ErrRange, at
		case sum(off, inFile).Cmp(all) > 0:
			return api.ErrShort, at
		case load && addr.Uint64()/256 < behind:
			return api.ErrMapped, at
		}
		if load {
			behind = (end.Uint64()-1)/256 + 1
		}
	}
	if behind == 0 {
		return api.ErrNone, 0
	}
	return api.OK, 0
}

// P9.1: many files, in each of which some numbers are swapped for others, held against the rule written anew.
func TestJudged(t *testing.T) {
	numbers := []uint64{0, 1, 2, 55, 56, 64, 120, 176, 200, 255, 256, 257, 400, 512, 600, 601, 768, 1024, 1 << 12, 1 << 16, 1<<16 + 256, 1 << 32, 1 << 63, 1<<64 - 512, 1<<64 - 256, 1<<64 - 56, 1<<64 - 1}
	seed := uint64(1)
	next := func(n int) int {
		seed = seed*6364136223846793005 + 1442695040888963407
		return int(seed >> 33 % uint64(n))
	}
	right := file{segs: []Segment{
		{Kind: Load, Off: 0, Addr: 0, File: 300, Mem: 500},
		{Kind: Dynamic, Off: 300, Addr: 600, File: 100, Mem: 100},
		{Kind: Load, Off: 400, Addr: 512, File: 200, Mem: 256},
		{Kind: Load, Off: 100, Addr: 1024, File: 0, Mem: 100},
	}, size: 600}.text()
	met := map[api.Errno]int{}
	for range 20000 {
		b := []byte(right)
		for range 1 + next(3) {
			n := numbers[next(len(numbers))]
			switch at := 64 + 56*next(4); next(9) {
			case 0:
				binary.LittleEndian.PutUint64(b[32:], n)
			case 1:
				binary.LittleEndian.PutUint16(b[56:], uint16(next(19)))
			case 2:
				binary.LittleEndian.PutUint32(b[at:], uint32(next(4)))
			default:
				binary.LittleEndian.PutUint64(b[at+[]int{8, 16, 16, 32, 40, 40}[next(6)]:], n)
			}
		}
		s := string(b)
		e, at := judged(s)
		met[e]++
		i, f := Read(s)
		if f != (fail.Fault{Code: e, At: at}) || f.OK() != (i.Bytes == s) || f.OK() != (len(i.Segments) > 0) {
			t.Fatalf("%x: %+v, not %q at %d", s[:64+4*56], f, fail.Word(e), at)
		}
	}
	for _, e := range []api.Errno{api.OK, api.ErrLimit, api.ErrShort, api.ErrAlign, api.ErrForm, api.ErrRange, api.ErrMapped, api.ErrNone} {
		if met[e] == 0 {
			t.Errorf("%q was never met", fail.Word(e))
		}
	}
}

// image of a file that is made, with what is behind its program headers.
func image(t testing.TB, f file) Image {
	t.Helper()
	i, fault := Read(f.text())
	if !fault.OK() {
		t.Fatal(fault.Text())
	}
	return i
}

// P9.2.
func TestPages(t *testing.T) {
	load := func(addr, mem uint64) Segment { return Segment{Kind: Load, Addr: addr, Mem: mem} }
	far := Segment{Kind: other, Addr: 1 << 40, Mem: 1 << 40}
	for _, c := range []struct {
		segs []Segment
		want int
	}{
		{[]Segment{load(0, 1)}, 1},
		{[]Segment{load(0, 255)}, 1},
		{[]Segment{load(0, 256)}, 1},
		{[]Segment{load(0, 257)}, 2},
		{[]Segment{load(0, 512)}, 2},
		{[]Segment{load(256, 1)}, 2},
		{[]Segment{load(0, 1), load(1024, 1)}, 5},
		{[]Segment{far, load(0, 1), far, load(1024, 257), far}, 6},
		{[]Segment{load(1<<30-256, 1)}, 1 << 22},
		{[]Segment{load(0, 1<<30)}, 1 << 22},
		{[]Segment{load(0, 1<<30-256)}, 1<<22 - 1},
	} {
		if got := image(t, file{segs: c.segs}).Pages(); got != c.want {
			t.Errorf("%+v: %d pages, not %d", c.segs, got, c.want)
		}
	}
}

// laid: an image with two Loads side by side, a gap, one that is all in the file, a gap, one of which nothing is, and other segments over and between them.
func laid(t testing.TB) Image {
	var rest strings.Builder
	for k := range 400 {
		rest.WriteByte(byte(1 + k%251))
	}
	const behind = 64 + 7*56
	return image(t, file{rest: rest.String(), segs: []Segment{
		{Kind: Dynamic, Perm: 7, Off: behind, Addr: 0, File: 20, Mem: 4000},
		{Kind: Load, Perm: 4, Off: behind, Addr: 256, File: 40, Mem: 256},
		{Kind: Load, Perm: 5, Off: behind + 31, Addr: 512, File: 41, Mem: 300},
		{Kind: other, Perm: 3, Off: 0, Addr: 1024, File: 20, Mem: 20},
		{Kind: Load, Perm: 6, Off: behind + 100, Addr: 1280, File: 300, Mem: 300},
		{Kind: Load, Perm: 0, Off: 0, Addr: 2048, File: 0, Mem: 20},
		{Kind: Dynamic, Perm: 1, Off: behind, Addr: 1280, File: 1, Mem: 1},
	}})
}

// loadsOf an image: of each address the Load that has it, and its byte, one by one.
func loadsOf(i Image) (map[uint64]int, map[uint64]byte) {
	of, bytes := map[uint64]int{}, map[uint64]byte{}
	for k, g := range i.Segments {
		if g.Kind != Load {
			continue
		}
		for j := range g.Mem {
			of[g.Addr+j], bytes[g.Addr+j] = k, 0
			if j < g.File {
				bytes[g.Addr+j] = i.Bytes[g.Off+j]
			}
		}
	}
	return of, bytes
}

// P9.2: each address up to behind the last Load, with each of some lengths.
func TestAt(t *testing.T) {
	i := laid(t)
	of, bytes := loadsOf(i)
	for addr := range uint64(2400) {
		for _, n := range []uint64{0, 1, 2, 15, 39, 40, 41, 42, 255, 256, 257, 299, 300, 301, 556, 557, 1000, 4096} {
			k, want := of[addr]
			var b []byte
			for a := addr; a < addr+n; a++ {
				if m, ok := of[a]; !ok || m != k {
					want = false
				}
				b = append(b, bytes[a])
			}
			if !want {
				b = nil
			}
			if got, ok := i.At(addr, n); ok != want || got != string(b) {
				t.Fatalf("At(%d, %d): %x %v, not %x %v", addr, n, got, ok, b, want)
			}
		}
	}
}

// P9.2: no bytes, and addresses and lengths beyond all Loads; their sum may go round.
func TestAtEdges(t *testing.T) {
	i := laid(t)
	for _, c := range []struct {
		addr uint64
		ok   bool
	}{
		{256, true}, {511, true}, {512, true}, {811, true}, {1280, true}, {1579, true}, {2048, true}, {2067, true},
		{0, false}, {255, false}, {812, false}, {1023, false}, {1024, false}, {1279, false}, {1580, false}, {2068, false}, {2303, false}, {2304, false}, {math.MaxUint64, false},
	} {
		if got, ok := i.At(c.addr, 0); ok != c.ok || got != "" {
			t.Errorf("none at %d: %q %v", c.addr, got, ok)
		}
	}
	for _, far := range []uint64{1 << 30, 1<<30 + 1, 1 << 32, 1<<32 + 1, 1 << 63, 1<<64 - 2048, 1<<64 - 512, 1<<64 - 256, 1<<64 - 1} {
		for _, near := range []uint64{0, 1, 256, 257, 512, 811, 1280, 2048, 2067} {
			if got, ok := i.At(near, far); ok || got != "" {
				t.Errorf("At(%d, %d): %v", near, far, ok)
			}
			if got, ok := i.At(far, near); ok || got != "" {
				t.Errorf("At(%d, %d): %v", far, near, ok)
			}
			if got, ok := i.At(near+far, near); ok && near+far >= far {
				t.Errorf("At(%d, %d): %q", near+far, near, got)
			}
		}
	}
	i = image(t, file{segs: []Segment{{Kind: Load, Addr: 0, Mem: 1 << 30}}})
	if got, ok := i.At(1<<30-3, 3); !ok || got != "\x00\x00\x00" {
		t.Errorf("the last ones: %q %v", got, ok)
	}
	if got, ok := i.At(1<<30-3, 4); ok || got != "" {
		t.Errorf("one more: %q %v", got, ok)
	}
	if got, ok := i.At(5, 1<<20); !ok || got != strings.Repeat("\x00", 1<<20) {
		t.Error("many", len(got), ok)
	}
	if got, ok := i.At(0, 1<<30); !ok || len(got) != 1<<30 || got[1<<30-1] != 0 {
		t.Error("all of them", len(got), ok)
	}
	if got, ok := i.At(5, 1<<30-4); ok || got != "" {
		t.Error("too many", len(got), ok)
	}
}

// P9.2, and the rules of what is to be ranged over.
func TestOf(t *testing.T) {
	i := laid(t)
	for _, kind := range []uint32{0, Load, Dynamic, 3, Relro, other, math.MaxUint32} {
		var want []Segment
		for _, g := range i.Segments {
			if g.Kind == kind {
				want = append(want, g)
			}
		}
		all := i.Of(kind)
		for range 2 {
			var got []Segment
			for g := range all {
				got = append(got, g)
			}
			if !reflect.DeepEqual(got, want) {
				t.Errorf("of the kind %d: %+v", kind, got)
			}
		}
		for stop := range want {
			met := 0
			all(func(g Segment) bool {
				if g != want[met] {
					t.Errorf("of the kind %d, the %d: %+v", kind, met, g)
				}
				met++
				return met <= stop
			})
			if met != stop+1 {
				t.Errorf("told to end at %d: %d segments", stop, met)
			}
		}
	}
}

// P9.2: each address: those that name a page of which a Load has some, and all others.
func TestPerm(t *testing.T) {
	i := laid(t)
	want := map[uint64]int{256: 4, 512: 5, 768: 5, 1280: 6, 1536: 6, 2048: 0}
	for page := range uint64(2600) {
		perm, named := want[page]
		if got, ok := i.Perm(page); got != perm || ok != named {
			t.Errorf("the page %d: %d %v", page, got, ok)
		}
	}
	for _, far := range []uint64{1 << 30, 1<<32 + 256, 1<<63 + 256, 1<<64 - 256, 1<<64 - 1} {
		if got, ok := i.Perm(far); got != 0 || ok {
			t.Errorf("the page %d: %d %v", far, got, ok)
		}
	}
	i = image(t, file{segs: []Segment{{Kind: Load, Perm: 3, Addr: 1<<30 - 512, Mem: 257}}})
	for page, ok := range map[uint64]bool{1<<30 - 768: false, 1<<30 - 512: true, 1<<30 - 256: true, 1 << 30: false} {
		if got, has := i.Perm(page); has != ok || ok != (got == 3) {
			t.Errorf("the page %d: %d %v", page, got, has)
		}
	}
}

// Rules: an answer is new memory, and a file that was read may be read again.
func TestNewMemory(t *testing.T) {
	s := file{segs: []Segment{small, {Kind: other}}}.text()
	a, _ := Read(s)
	a.Segments[0] = Segment{}
	a.Segments = append(a.Segments[:1], Segment{Kind: 9})
	wantRead(t, "again", s, 0, []Segment{small, {Kind: other}})
}

// P1: no method panics, also of images that no file has.
func TestHandMade(t *testing.T) {
	var none Image
	if b, ok := none.At(0, 0); b != "" || ok {
		t.Error(b, ok)
	}
	if p, ok := none.Perm(0); p != 0 || ok {
		t.Error(p, ok)
	}
	for g := range none.Of(0) {
		t.Error(g)
	}
	if n := none.Pages(); n != 0 {
		t.Error(n)
	}
	odd := []uint64{0, 1, 255, 256, 1 << 30, 1 << 63, math.MaxUint64}
	for _, addr := range odd {
		for _, mem := range odd {
			for _, off := range odd {
				i := Image{Bytes: "abc", Segments: []Segment{{Kind: Load, Off: off, Addr: addr, File: mem, Mem: mem}}}
				i.Pages()
				i.Perm(addr)
				for _, n := range []uint64{0, 1, 256, 1<<30 + 1, 1 << 63, math.MaxUint64} {
					if b, ok := i.At(addr, n); ok && uint64(len(b)) != n {
						t.Error(addr, mem, off, n, len(b))
					}
				}
			}
		}
	}
}

// P3: whatever bytes a file has, there is a fault or an image with a Load.
func FuzzRead(f *testing.F) {
	f.Add(file{}.text())
	f.Add(file{segs: []Segment{small, {Kind: Dynamic, Off: 100, Addr: 256, File: 20, Mem: 20}}, size: 300}.text())
	f.Fuzz(func(t *testing.T, s string) {
		i, fault := Read(s)
		if !fault.OK() {
			return
		}
		if e, _ := judged(s); e != api.OK || i.Pages() < 1 {
			t.Error(fail.Word(e), i.Pages())
		}
		for g := range i.Of(Load) {
			if b, ok := i.At(g.Addr, g.File); !ok || b != s[g.Off:][:g.File] {
				t.Error(g, ok)
			}
		}
	})
}
