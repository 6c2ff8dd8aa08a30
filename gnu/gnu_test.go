package gnu

import (
	"encoding/binary"
	"fmt"
	"math"
	"math/rand"
	"slices"
	"strings"
	"testing"

	"turnbuckle/api"
	"turnbuckle/fail"
)

// highest is the highest bit of a number of four bytes.
const highest = 1 << 31

// hashA is the hash of "a"; that of "b" is one more, which differs in the lowest bit alone.
const hashA = 177670

// open is a filter that lets each name through.
var open = []uint64{math.MaxUint64}

// tooMany are numbers of what there may be MaxSymbols of; some times 4 or 8 are 0 in 32 bits.
var tooMany = []uint32{257, 258, 512, 1 << 16, 1 << 24, 1 << 29, 1 << 30, highest, highest + 1, math.MaxUint32}

// quads: the bytes of numbers of four bytes each, one behind the other.
func quads(l ...uint32) string {
	var b []byte
	for _, n := range l {
		b = binary.LittleEndian.AppendUint32(b, n)
	}
	return string(b)
}

// octets: likewise, of eight bytes each.
func octets(l ...uint64) string {
	var b []byte
	for _, n := range l {
		b = binary.LittleEndian.AppendUint64(b, n)
	}
	return string(b)
}

// bytesOf a table, as the chapter lists them.
func bytesOf(x Table) string {
	return quads(uint32(len(x.Buckets)), x.First, uint32(len(x.Bloom)), x.Shift) +
		octets(x.Bloom...) + quads(x.Buckets...) + quads(x.Chains...)
}

// same: have two tables the same numbers?
func same(x, y Table) bool {
	return x.First == y.First && x.Shift == y.Shift && slices.Equal(x.Bloom, y.Bloom) &&
		slices.Equal(x.Buckets, y.Buckets) && slices.Equal(x.Chains, y.Chains)
}

// isZero: is a table the zero value?
func isZero(x Table) bool {
	return x.First == 0 && x.Shift == 0 && x.Bloom == nil && x.Buckets == nil && x.Chains == nil
}

// wantTable: bytes are read as this table.
func wantTable(t *testing.T, what, b string, want Table) {
	t.Helper()
	if got, f := Read(b); f != (fail.Fault{}) || !same(got, want) {
		t.Errorf("%s: %v %v, not %v", what, got, f, want)
	}
}

// wantFault: bytes aren't read, and nothing but the fault is told.
func wantFault(t *testing.T, what, b string, e api.Errno, at uint64) {
	t.Helper()
	if got, f := Read(b); f != (fail.Fault{Code: e, At: at}) || !isZero(got) {
		t.Errorf("%s: %v %q at %d, not %q at %d", what, got, fail.Word(f.Code), f.At, fail.Word(e), at)
	}
}

// walked: the symbols of a walk, which is gone through twice.
func walked(t *testing.T, x Table, name string) []int {
	t.Helper()
	walk := x.Walk(name)
	var first, second []int
	for i := range walk {
		first = append(first, i)
	}
	for i := range walk {
		second = append(second, i)
	}
	if !slices.Equal(first, second) {
		t.Errorf("%v: %v at first, then %v", x, first, second)
	}
	return first
}

// wantWalk: the walk of a name comes by these symbols.
func wantWalk(t *testing.T, what string, x Table, name string, want ...int) {
	t.Helper()
	if got := walked(t, x, name); !slices.Equal(got, want) {
		t.Errorf("%s: the walk of %q in %v comes by %v, not %v", what, name, x, got, want)
	}
}

// wantFind: in a table, with names that are words (- is one, too), a name is found, or (at 0) isn't.
func wantFind(t *testing.T, what string, x Table, name, words string, want int) {
	t.Helper()
	names := strings.Fields(words)
	for _, l := range [][]string{names, append(names, name)[:len(names)]} {
		if got, ok := x.Find(name, l); got != want || ok != (want != 0) {
			t.Errorf("%s: %q is %d %v, not %d", what, name, got, ok, want)
		}
	}
}

// many names: so many, all of them different.
func many(n int) []string {
	var l []string
	for i := range n {
		l = append(l, fmt.Sprintf("name%d", i))
	}
	return l
}

// ordered: names in the order of so many Buckets.
func ordered(names []string, buckets int) []string {
	var l []string
	for _, i := range Order(names, buckets) {
		l = append(l, names[i])
	}
	return l
}

// P14.1: the chapter's examples, some that others have told, and those that go round.
func TestHash(t *testing.T) {
	for s, want := range map[string]uint32{
		"":              5381,
		"a":             hashA,
		"b":             hashA + 1,
		"\x00":          5381 * 33,
		"\xff":          5381*33 + 255,
		"aB":            (5381*33+'a')*33 + 'B',
		"b!":            (5381*33+'a')*33 + 'B',
		"exit":          0x7c967e3f,
		"printf":        0x156b2bb8,
		"syscall":       0xbac212a0,
		"flapenguin.me": 0x8ae9f18e,
		"\xc3\xa9":      (5381*33+0xc3)*33 + 0xa9,
	} {
		if got := Hash(s); got != want {
			t.Errorf("Hash(%q) = %#x, not %#x", s, got, want)
		}
	}
	// Of many bytes: as many times 33, in numbers that don't go round.
	long := strings.Repeat("turnbuckle\xfe", 500)
	h := uint64(5381)
	for _, c := range []byte(long) {
		h = (h*33 + uint64(c)) % (1 << 32)
	}
	if got := Hash(long); uint64(got) != h {
		t.Errorf("%#x, not %#x", got, h)
	}
}

// P14.1: ordinary tables, and what is behind them.
func TestRead(t *testing.T) {
	x := Table{2, 6, []uint64{1<<63 | 5, 0x0102030405060708}, []uint32{0, 4, 2}, []uint32{11, 0xfffffffe, 12, 0, 0x01020305}}
	none := Table{7, 0x01020304, []uint64{3}, []uint32{0, 0}, nil}
	for _, behind := range []string{"", "\x00", "abc", quads(9, highest), strings.Repeat("\xff", 2000)} {
		wantTable(t, "five symbols", bytesOf(x)+behind, x)
		wantTable(t, "all Buckets 0", bytesOf(none)+behind, none)
		one := Table{1, 0, []uint64{0}, []uint32{1}, []uint32{1}}
		wantTable(t, "one symbol", bytesOf(one)+behind, one)
	}
	for _, shift := range []uint32{0, 1, 31, 32, 63, 64, 65, 256, 257, highest, math.MaxUint32} {
		x.Shift = shift
		wantTable(t, "any Shift", bytesOf(x), x)
	}
	for bit := range 64 {
		x.Bloom[1] = 1 << bit
		wantTable(t, "any word", bytesOf(x), x)
		x.Chains[0] = 1 << (bit % 32)
		wantTable(t, "any Chain ahead of the greatest Bucket's", bytesOf(x), x)
	}
}

// P14.1: less than 16 bytes, and just 16.
func TestReadHead(t *testing.T) {
	for n := range 16 {
		for _, c := range []string{"\x00", "\x01", "\xff"} {
			wantFault(t, "head", strings.Repeat(c, n), api.ErrShort, 0)
		}
		wantFault(t, "head cut", quads(1, 0, 1, 0)[:n], api.ErrShort, 0)
	}
	wantFault(t, "16 bytes, without a word and a Bucket", quads(1, 0, 1, 0), api.ErrShort, 0)
	wantFault(t, "16 bytes, no Bucket", quads(0, 0, 1, 0), api.ErrForm, 0)
	wantFault(t, "16 bytes, no word", quads(1, 0, 0, 0), api.ErrForm, 0)
	wantFault(t, "16 bytes, too many", quads(257, 0, 1, 0), api.ErrLimit, 0)
}

// P14.1: no Buckets or no words, whatever else is wrong.
func TestReadNone(t *testing.T) {
	counts := append([]uint32{0, 1, 255, 256}, tooMany...)
	for _, n := range counts {
		for _, first := range counts {
			for _, behind := range []string{"", strings.Repeat("\x00", 4000), strings.Repeat("\xff", 4000)} {
				wantFault(t, "no Buckets", quads(0, first, n, n)+behind, api.ErrForm, 0)
				wantFault(t, "no words", quads(n, first, 0, n)+behind, api.ErrForm, 0)
			}
		}
	}
}

// P14.1: just as many as there may be, and more, with their bytes and without.
func TestReadLimits(t *testing.T) {
	counts := append([]uint32{1, 2, 255, 256}, tooMany...)
	for _, buckets := range counts {
		for _, words := range counts {
			for _, first := range append([]uint32{0}, counts...) {
				for _, c := range []string{"", "\x00", "\xff"} {
					b := quads(buckets, first, words, 0) + strings.Repeat(c, 4000)
					switch {
					case max(buckets, words, first) > 256:
						wantFault(t, "too many", b, api.ErrLimit, 0)
					case c == "":
						wantFault(t, "none there", b, api.ErrShort, 0)
					case c == "\xff":
						wantFault(t, "out of range", b, api.ErrRange, uint64(16+8*words))
					default:
						wantTable(t, "as many as there may be", b, Table{First: first, Bloom: make([]uint64, words), Buckets: make([]uint32, buckets)})
					}
				}
			}
		}
	}
}

// P14.1: each length of bytes, of Buckets that are 0 and of wrong ones, which are told only where all of them are there.
func TestReadCut(t *testing.T) {
	for buckets := uint32(1); buckets < 4; buckets++ {
		for words := uint32(1); words < 4; words++ {
			head := quads(buckets, 0, words, 0)
			right := head + strings.Repeat("\x00", int(8*words+4*buckets))
			wrong := head + strings.Repeat("\xff", int(8*words+4*buckets))
			for n := range len(right) {
				wantFault(t, "cut", right[:n], api.ErrShort, 0)
				wantFault(t, "cut, and out of range", wrong[:n], api.ErrShort, 0)
			}
			wantTable(t, "whole", right, Table{Bloom: make([]uint64, words), Buckets: make([]uint32, buckets)})
			wantFault(t, "whole, and out of range", wrong, api.ErrRange, uint64(16+8*words))
		}
	}
	b := quads(256, 256, 256, 0) + strings.Repeat("\x00", 12*256)
	wantTable(t, "the last byte is there", b, Table{First: 256, Bloom: make([]uint64, 256), Buckets: make([]uint32, 256)})
	wantFault(t, "the last byte isn't there", b[:len(b)-1], api.ErrShort, 0)
}

// P14.1: each Bucket, of numbers around both bounds and far beyond them.
func TestReadRange(t *testing.T) {
	for _, first := range []uint32{0, 1, 2, 7, 128, 254, 255, 256} {
		for place := range 4 {
			for _, n := range []uint32{0, 1, first - 1, first, first + 1, 254, 255, 256, 257, highest, highest + first, math.MaxUint32} {
				x := Table{First: first, Bloom: []uint64{0, 1}, Buckets: make([]uint32, 4)}
				x.Buckets[place] = n
				at := uint64(16 + 16 + 4*place)
				switch {
				case n == 0:
					wantTable(t, "0", bytesOf(x), x)
				case n < first || n >= 256:
					wantFault(t, "out of range, and no Chain", bytesOf(x), api.ErrRange, at)
					wantFault(t, "out of range", bytesOf(x)+strings.Repeat("\x01", 2000), api.ErrRange, at)
					wantFault(t, "out of range, and no last Chain", bytesOf(x)+strings.Repeat("\x00", 2000), api.ErrRange, at)
				default:
					wantFault(t, "in range, and no Chain", bytesOf(x), api.ErrShort, 0)
					x.Chains = make([]uint32, n-first+1)
					x.Chains[n-first] = 1
					wantTable(t, "in range", bytesOf(x), x)
				}
			}
		}
	}
}

// P14.1: of Buckets that are out of range the first one is told, whichever bound they are beyond.
func TestReadRangeFirst(t *testing.T) {
	wrong := []uint32{9, 1, 256, highest, math.MaxUint32}
	for place := range 5 {
		for later := place + 1; later < 5; later++ {
			for _, n := range wrong {
				for _, m := range wrong {
					l := []uint32{0, 10, 255, 11, 0}
					l[place], l[later] = n, m
					x := Table{First: 10, Bloom: []uint64{0}, Buckets: l}
					wantFault(t, "two", bytesOf(x), api.ErrRange, uint64(24+4*place))
				}
			}
		}
	}
}

// P14.1: runs of Chains from the greatest Bucket's on, by where the first last one is (if any), and where the bytes end.
func TestReadChains(t *testing.T) {
	for _, first := range []uint32{0, 1, 200, 250, 255} {
		for greatest := max(first, 1); greatest < 256; greatest = min(greatest+1+greatest/3, max(255, greatest+1)) {
			for last := greatest; last < 260; last += 1 + (259-last)/5 {
				x := Table{First: first, Bloom: []uint64{0}, Buckets: []uint32{first, greatest, 0}}
				for symbol := first; symbol < 260; symbol++ {
					c := 2*symbol | 0xffff0000
					// Those ahead of the greatest Bucket's, and behind the last one, may have the lowest bit, too.
					if symbol < greatest || symbol >= last {
						c |= 1
					}
					x.Chains = append(x.Chains, c)
				}
				b := bytesOf(x)
				x.Chains = x.Chains[:last-first+1]
				chains := 16 + 8 + 12
				end := chains + 4*len(x.Chains)
				switch {
				case last >= 256:
					wantFault(t, "too many", b, api.ErrLimit, 0)
					wantFault(t, "at once too many, and not there", b[:chains+int(256-first)*4], api.ErrLimit, 0)
					wantFault(t, "not there ahead of too many", b[:chains+int(256-first)*4-1], api.ErrShort, 0)
				default:
					wantTable(t, "there", b, x)
					wantTable(t, "just there", b[:end], x)
					for n := chains; n < end; n += 1 + (end-1-n)/7 {
						wantFault(t, "not there", b[:n], api.ErrShort, 0)
					}
				}
			}
		}
	}
}

// P14.1: just the lowest bit makes a Chain the last one.
func TestReadLastBit(t *testing.T) {
	for bit := range 32 {
		for _, c := range []uint32{1 << bit, ^uint32(1 << bit)} {
			x := Table{1, 0, []uint64{0}, []uint32{1}, []uint32{c, 1}}
			if c&1 != 0 {
				x.Chains = x.Chains[:1]
			}
			wantTable(t, "two Chains", quads(1, 1, 1, 0)+octets(0)+quads(1, c, 1), x)
		}
	}
}

// P14.1: the walk from the greatest Bucket on is the last one, wherever that Bucket stands, and however many tell it.
func TestReadGreatest(t *testing.T) {
	for _, buckets := range [][]uint32{{5, 1, 3}, {1, 5, 3}, {0, 3, 5}, {5, 5, 5}, {0, 0, 5}, {5, 0, 0}} {
		x := Table{1, 0, []uint64{0}, buckets, []uint32{1, 1, 1, 1, 0, 0, 3}}
		wantTable(t, "greatest", bytesOf(x)+quads(1, 1, 1), x)
	}
}

// P14.1, and the rule that answers are new memory: the parts share nothing, neither with one another nor with another answer.
func TestReadParts(t *testing.T) {
	want := Table{1, 6, []uint64{3, 4}, []uint32{1, 3}, []uint32{8, 11, 13}}
	b := bytesOf(want)
	x, f := Read(b)
	y, f2 := Read(b)
	if !f.OK() || !f2.OK() {
		t.Fatal(f, f2)
	}
	if cap(x.Buckets) != len(x.Buckets) || cap(x.Chains) != len(x.Chains) {
		t.Error("there is room behind a part")
	}
	_ = append(x.Bloom, 9)
	_ = append(x.Buckets, 9)
	_ = append(x.Chains, 9)
	if !same(x, want) {
		t.Error(x)
	}
	x.Bloom[0], x.Buckets[0], x.Chains[0] = 7, 8, 9
	if !same(y, want) {
		t.Error(y)
	}
}

// P14.1: what Put makes is read again, and what was read is put again.
func TestPutRead(t *testing.T) {
	for _, n := range []int{0, 1, 2, 17, 200, 255} {
		for _, buckets := range []int{1, 2, 7, 255, 256} {
			for _, words := range []int{1, 2, 256} {
				for _, shift := range []int{0, 6, 31, 32, 63} {
					first := min(1+shift, 256-n)
					x, ok := Build(ordered(many(n), buckets), first, buckets, words, shift)
					if !ok {
						t.Fatal(n, first, buckets, words, shift)
					}
					b := x.Put()
					if b != bytesOf(x) {
						t.Errorf("%d names, %d Buckets: %x", n, buckets, b)
					}
					wantTable(t, "again", b, x)
					wantTable(t, "again, and more", b+"more", x)
					y, _ := Read(b + "more")
					if y.Put() != b {
						t.Errorf("%d names, %d Buckets: put again", n, buckets)
					}
				}
			}
		}
	}
}

// P14.1: tables whose parts were set by hand.
func TestPutByHand(t *testing.T) {
	for _, x := range []Table{
		{},
		{Bloom: []uint64{}, Buckets: []uint32{}, Chains: []uint32{}},
		{First: math.MaxUint32, Shift: highest},
		{Bloom: []uint64{0x0102030405060708}},
		{Buckets: []uint32{0x01020304}},
		{Chains: []uint32{1, highest}},
		{1, 2, []uint64{1 << 63, 4}, []uint32{math.MaxUint32}, []uint32{5, 6, 7}},
		{1, 2, make([]uint64, 300), make([]uint32, 400), make([]uint32, 500)},
	} {
		if got := x.Put(); got != bytesOf(x) {
			t.Errorf("%v: %x", x, got)
		}
	}
	if got := (Table{}).Put(); got != strings.Repeat("\x00", 16) {
		t.Errorf("%x", got)
	}
}

// P14.2: how many Buckets there may be; of names any.
func TestOrderLimits(t *testing.T) {
	for _, buckets := range []int{math.MinInt, -256, -1, 0, 1, 2, 255, 256, 257, 512, 1 << 32, 1<<32 + 1, math.MaxInt} {
		for _, n := range []int{0, 1, 2, 256, 257, 1000} {
			got := Order(many(n), buckets)
			want := n
			if buckets < 1 || buckets > 256 {
				want = 0
			}
			if len(got) != want {
				t.Errorf("%d names, %d Buckets: %d places", n, buckets, len(got))
			}
		}
	}
	if got := Order(nil, 1); len(got) != 0 {
		t.Error(got)
	}
}

// P14.2: by rising Buckets, and in each one by rising places; nothing that is handed in changes.
func TestOrder(t *testing.T) {
	if got := Order([]string{"b", "a", "b", "", "a"}, 1); !slices.Equal(got, []int{0, 1, 2, 3, 4}) {
		t.Error(got)
	}
	// "a" is even, "b" and "" are odd.
	if got := Order([]string{"b", "a", "b", "", "a"}, 2); !slices.Equal(got, []int{1, 4, 0, 2, 3}) {
		t.Error(got)
	}
	names := append(many(300), many(100)...)
	for _, buckets := range []int{1, 2, 3, 64, 255, 256} {
		room := append(slices.Clone(names), "behind")
		var want []int
		for k := range buckets {
			for i, name := range names {
				if Hash(name)%uint32(buckets) == uint32(k) {
					want = append(want, i)
				}
			}
		}
		if got := Order(room[:400], buckets); !slices.Equal(got, want) {
			t.Errorf("%d Buckets: %v, not %v", buckets, got, want)
		}
		if !slices.Equal(room[:400], names) || room[400] != "behind" {
			t.Error("the names were changed")
		}
	}
}

// P14.2: each number of Build beyond its bounds, alone and with the others.
func TestBuildLimits(t *testing.T) {
	counts := []int{math.MinInt, -1, 0, 1, 255, 256, 257, 1<<32 + 1, math.MaxInt}
	shifts := []int{math.MinInt, -1, 0, 31, 32, 63, 64, 1 << 32, math.MaxInt}
	isCount := func(n int) bool { return n >= 1 && n <= 256 }
	for _, buckets := range counts {
		for _, words := range counts {
			for _, shift := range shifts {
				for _, first := range counts {
					for _, names := range [][]string{nil, {"a"}, {"a", "a"}} {
						right := isCount(buckets) && isCount(words) && shift >= 0 && shift <= 63 &&
							(len(names) == 0 && first == 0 || first >= 1 && first <= 256-len(names))
						x, ok := Build(names, first, buckets, words, shift)
						if ok != right || !ok && !isZero(x) {
							t.Errorf("Build(%q, %d, %d, %d, %d): %v %v", names, first, buckets, words, shift, x, ok)
						} else if ok && (x.First != uint32(first) || x.Shift != uint32(shift) || len(x.Bloom) != words || len(x.Buckets) != buckets) {
							t.Errorf("Build(%q, %d, %d, %d, %d): %v", names, first, buckets, words, shift, x)
						}
					}
				}
			}
		}
	}
}

// P14.2: First just as great as it may be, and one more, of each number of names.
func TestBuildFirst(t *testing.T) {
	for n := range 260 {
		names := ordered(many(n), 7)
		for _, first := range []int{math.MinInt, -1, 0, 1, 256 - n - 1, 256 - n, 256 - n + 1, 256, 257, math.MaxInt} {
			x, ok := Build(names, first, 7, 3, 5)
			right := first >= 0 && first <= 256-n && (first != 0 || n == 0)
			if ok != right {
				t.Errorf("%d names from %d on: %v", n, first, ok)
			} else if ok && (len(x.Chains) != n || x.Symbols() != first+n) {
				t.Errorf("%d names from %d on: %v", n, first, x)
			}
		}
	}
}

// P14.2: names that are out of order anywhere.
func TestBuildOrder(t *testing.T) {
	right := ordered(many(40), 8)
	bucket := func(i int) uint32 { return Hash(right[i]) % 8 }
	for i := range right {
		for k := range i {
			names := slices.Clone(right)
			names[i], names[k] = names[k], names[i]
			if x, ok := Build(names, 1, 8, 1, 0); ok != (bucket(i) == bucket(k)) || !ok && !isZero(x) {
				t.Errorf("%d and %d changed places: %v", k, i, ok)
			}
		}
	}
	// Within a Bucket any order will do, by the hash or not.
	for _, names := range [][]string{{"a", "b"}, {"b", "a"}, {"b", "a", "b"}} {
		if _, ok := Build(names, 1, 1, 1, 0); !ok {
			t.Errorf("%q", names)
		}
	}
	if _, ok := Build([]string{"b", "a"}, 1, 2, 1, 0); ok {
		t.Error("b is odd, a even")
	}
	if _, ok := Build([]string{"a", "b"}, 1, 2, 1, 0); !ok {
		t.Error("a is even, b odd")
	}
}

// bits of a word that a hash sets, as the chapter says.
func bits(h, shift uint32) uint64 {
	moved := uint32(0)
	if shift < 32 {
		moved = h / (1 << shift)
	}
	return uint64(1)<<(h%64) | uint64(1)<<(moved%64)
}

// built: the table of names, each number by itself.
func built(names []string, first, buckets, words, shift int) Table {
	x := Table{uint32(first), uint32(shift), make([]uint64, words), make([]uint32, buckets), nil}
	of := func(i int) uint32 { return Hash(names[i]) % uint32(buckets) }
	for i := range names {
		h := Hash(names[i])
		x.Bloom[int(h/64)%words] |= bits(h, uint32(shift))
		c := h / 2 * 2
		if i+1 == len(names) || of(i+1) != of(i) {
			c++
		}
		x.Chains = append(x.Chains, c)
		if i == 0 || of(i-1) != of(i) {
			x.Buckets[of(i)] = uint32(first + i)
		}
	}
	return x
}

// P14.2: tables of no names, of one, of the same twice, of many.
func TestBuild(t *testing.T) {
	long := strings.Repeat("long", 1000)
	for _, names := range [][]string{
		nil,
		{""},
		{"a"},
		{"a", "a"},
		{"a", "b", "a", "b"},
		{"aB", "b!", "aB", "x"},
		{"puts", "exit", "main", "f", "g", "\x00", "\xff\xff", long, long + "x"},
		many(40),
		append(many(60), many(60)...),
		many(255),
	} {
		for _, buckets := range []int{1, 2, 3, 16, 255, 256} {
			for _, words := range []int{1, 2, 3, 64, 256} {
				for _, shift := range []int{0, 1, 6, 26, 31, 32, 33, 63} {
					l := ordered(names, buckets)
					first := min(2, 256-len(names))
					x, ok := Build(l, first, buckets, words, shift)
					if want := built(l, first, buckets, words, shift); !ok || !same(x, want) {
						t.Fatalf("%q, %d Buckets, %d words, Shift %d: %v %v, not %v", l, buckets, words, shift, x, ok, want)
					}
				}
			}
		}
	}
	x, ok := Build([]string{"a", "b"}, 5, 1, 1, 6)
	// 177670 and 177671 modulo 64 are 6 and 7, and 2776 modulo 64 is 24.
	if want := (Table{5, 6, []uint64{1<<6 | 1<<7 | 1<<24}, []uint32{5}, []uint32{hashA, hashA + 1}}); !ok || !same(x, want) {
		t.Error(x, ok)
	}
}

// P14.2, and the rule that what is handed in is not changed and not kept.
func TestBuildKeepsNothing(t *testing.T) {
	room := []string{"a", "a", "b", "behind"}
	names := room[:3]
	x, ok := Build(names, 1, 2, 1, 0)
	if !ok || !slices.Equal(room, []string{"a", "a", "b", "behind"}) {
		t.Error(room, ok)
	}
	want := bytesOf(x)
	names[0], names[2] = "x", "y"
	_ = append(x.Bloom, 9)
	_ = append(x.Buckets, 9)
	_ = append(x.Chains, 9)
	if bytesOf(x) != want {
		t.Error(x)
	}
}

// P14.3: each one of both bits, in its word, and in no other.
func TestMay(t *testing.T) {
	names := []string{"", "a", "b", "puts", "exit", "\xff\xff\xff\xff\xff\xff\xff", "flapenguin.me"}
	for _, name := range names {
		h := Hash(name)
		for _, shift := range []uint32{0, 1, 5, 6, 26, 31, 32, 33, 63, 64, 96, highest, math.MaxUint32} {
			for _, words := range []int{1, 2, 3, 5, 64, 300} {
				at, both := int(h/64)%words, bits(h, shift)
				x := Table{Shift: shift, Bloom: make([]uint64, words)}
				if x.May(name) {
					t.Errorf("%q: no bits", name)
				}
				x.Bloom[at] = both
				if !x.May(name) {
					t.Errorf("%q, Shift %d, %d words: not by its own bits", name, shift, words)
				}
				for bit := range 64 {
					for other := range x.Bloom {
						x.Bloom[other] = math.MaxUint64
					}
					x.Bloom[at] = math.MaxUint64 - 1<<bit
					if x.May(name) != (both>>bit%2 == 0) {
						t.Errorf("%q, Shift %d, %d words: without the bit %d", name, shift, words, bit)
					}
				}
			}
		}
		for _, x := range []Table{{}, {Bloom: []uint64{}}, {Buckets: []uint32{1}, Chains: []uint32{h | 1}}} {
			if x.May(name) {
				t.Errorf("%q: no words", name)
			}
		}
	}
}

// P14.3: where the second bit is: h moved down by 32 or more is 0.
func TestMayShift(t *testing.T) {
	// 177670 is 2b606 (hexadecimal).
	for _, c := range []struct{ shift, bit uint32 }{
		{0, 6}, {1, 3}, {2, 1}, {4, 0x20}, {6, 0x18}, {12, 0x2b}, {17, 1}, {18, 0}, {31, 0},
		{32, 0}, {33, 0}, {36, 0}, {63, 0}, {64, 0}, {65, 0}, {68, 0}, {96, 0}, {1<<31 + 4, 0}, {1<<32 - 1, 0},
	} {
		for bit := range uint32(64) {
			x := Table{Shift: c.shift, Bloom: []uint64{1<<6 | 1<<bit}}
			if got := x.May("a"); got != (bit == c.bit || c.bit == 6) {
				t.Errorf("Shift %d, bit %d: %v", c.shift, bit, got)
			}
		}
	}
	// The highest bit of a hash, moved down by 31, is 1.
	if x := (Table{Shift: 31, Bloom: []uint64{1<<(0x8ae9f18e%64) | 2}}); !x.May("flapenguin.me") {
		t.Error("by 31")
	}
	if x := (Table{Shift: 32, Bloom: []uint64{1<<(0x8ae9f18e%64) | 2}}); x.May("flapenguin.me") {
		t.Error("by 32")
	}
}

// P14.3: walks that end, that begin elsewhere, and that come by no symbol; the place of "a" is 0 of one or two Buckets.
func TestWalk(t *testing.T) {
	const more, last, other = hashA, hashA + 1, hashA + 2
	for _, c := range []struct {
		what  string
		first uint32
		// of the table
		buckets, chains []uint32
		want            []int
	}{
		{"nothing", 0, nil, nil, nil},
		{"no Buckets", 1, nil, []uint32{last}, nil},
		{"no Buckets", 0, []uint32{}, []uint32{last}, nil},
		{"no Chains", 1, []uint32{1}, nil, nil},
		{"no Chains, and 0", 0, []uint32{0}, nil, nil},
		{"one symbol", 1, []uint32{1}, []uint32{last}, []int{1}},
		{"one other symbol", 1, []uint32{1}, []uint32{other + 1}, nil},
		{"its Bucket of two", 1, []uint32{2, 1}, []uint32{last, last}, []int{2}},
		{"its Bucket of three", 1, []uint32{1, 2, 3}, []uint32{last, last, last}, []int{hashA%3 + 1}},
		{"three symbols", 5, []uint32{5}, []uint32{more, more, last}, []int{5, 6, 7}},
		{"three symbols, and more Chains", 5, []uint32{5}, []uint32{more, more, last, last, more}, []int{5, 6, 7}},
		{"those behind the Bucket's", 5, []uint32{6}, []uint32{last, more, last}, []int{6, 7}},
		{"the last Chain's", 5, []uint32{7}, []uint32{last, last, last}, []int{7}},
		{"just behind the last Chain's", 5, []uint32{8}, []uint32{last, last, last}, nil},
		{"far behind the last Chain's", 5, []uint32{math.MaxUint32}, []uint32{last, last, last}, nil},
		{"far behind, by the highest bit", 5, []uint32{highest + 5}, []uint32{last, last, last}, nil},
		{"no last one", 5, []uint32{5}, []uint32{more, other, more}, []int{5, 7}},
		{"others among them", 5, []uint32{5}, []uint32{other, more, other, more, 0, other + 1}, []int{6, 8}},
		{"another one is the last", 5, []uint32{5}, []uint32{more, 3, last}, []int{5}},
		{"the lowest bit in the midst", 5, []uint32{5}, []uint32{more, last, more, last}, []int{5, 6}},
		{"one less than First", 5, []uint32{4}, []uint32{last, last}, nil},
		{"0, below First", 5, []uint32{0}, []uint32{last, last}, nil},
		{"0, and so is First", 0, []uint32{0}, []uint32{more, last}, []int{0, 1}},
		{"from 0 on", 0, []uint32{1}, []uint32{last, last}, []int{1}},
		{"from far away on", highest, []uint32{highest + 1}, []uint32{last, more, last}, []int{highest + 1, highest + 2}},
		{"from the farthest on", math.MaxUint32, []uint32{math.MaxUint32}, []uint32{more, last}, []int{math.MaxUint32, math.MaxUint32 + 1}},
		{"below the farthest", math.MaxUint32, []uint32{math.MaxUint32 - 1}, []uint32{more, last}, nil},
	} {
		x := Table{First: c.first, Bloom: open, Buckets: c.buckets, Chains: c.chains}
		wantWalk(t, c.what, x, "a", c.want...)
		x.Bloom = []uint64{math.MaxUint64 - 1<<6}
		wantWalk(t, c.what+", not through the filter", x, "a")
		x.Bloom = nil
		wantWalk(t, c.what+", no words", x, "a")
	}
	// All bits of a hash but the lowest one matter.
	for bit := range 32 {
		x := Table{First: 1, Bloom: open, Buckets: []uint32{1}, Chains: []uint32{hashA ^ 1<<bit, last}}
		switch bit {
		case 0:
			wantWalk(t, "the lowest bit", x, "a", 1)
			wantWalk(t, "the lowest bit", x, "b", 1)
		default:
			wantWalk(t, "another bit", x, "a", 2)
			wantWalk(t, "another bit", x, "b", 2)
		}
	}
}

// P14.3: a walk ends as soon as it is told to.
func TestWalkEnds(t *testing.T) {
	x := Table{First: 3, Bloom: open, Buckets: []uint32{3}, Chains: []uint32{hashA, 2, hashA, 4, hashA, hashA + 1}}
	walk := x.Walk("a")
	for stop := range 4 {
		met := 0
		walk(func(int) bool {
			met++
			return met <= stop
		})
		if met != stop+1 {
			t.Errorf("told to end at %d: %d symbols", stop, met)
		}
	}
}

// modelWalk: the symbols of a walk, by the chapter's words one by one.
func modelWalk(x Table, name string) []int {
	if !x.May(name) || len(x.Buckets) == 0 {
		return nil
	}
	h := Hash(name)
	symbol := int(x.Buckets[h%uint32(len(x.Buckets))])
	if symbol < int(x.First) {
		return nil
	}
	var l []int
	for symbol-int(x.First) < len(x.Chains) {
		c := x.Chains[symbol-int(x.First)]
		if c/2 == h/2 {
			l = append(l, symbol)
		}
		if c%2 == 1 {
			break
		}
		symbol++
	}
	return l
}

// P14.3: the walk of all sorts of tables, and nothing of a table changes.
func TestWalkAny(t *testing.T) {
	r := rand.New(rand.NewSource(1))
	names := []string{"", "a", "b", "aB", "b!", "puts"}
	for range 5000 {
		x := Table{uint32(r.Intn(4)), uint32(r.Intn(70)), make([]uint64, r.Intn(3)), make([]uint32, r.Intn(4)), make([]uint32, r.Intn(7))}
		for i := range x.Bloom {
			x.Bloom[i] = r.Uint64() | r.Uint64() | r.Uint64()
		}
		for i := range x.Buckets {
			x.Buckets[i] = uint32(r.Intn(9))
			if r.Intn(20) == 0 {
				x.Buckets[i] |= highest
			}
		}
		for i := range x.Chains {
			x.Chains[i] = Hash(names[r.Intn(len(names))])
			if r.Intn(3) > 0 {
				x.Chains[i] &^= 1
			}
		}
		before := bytesOf(x)
		for _, name := range names {
			wantWalk(t, "any", x, name, modelWalk(x, name)...)
			x.Find(name, names)
		}
		if bytesOf(x) != before {
			t.Errorf("%v was changed", x)
		}
	}
}

// P14.3: the first of the walk, by its place in names, of which there may be fewer or more than symbols.
func TestFind(t *testing.T) {
	// "a" and "b" are of one walk.
	x := Table{First: 2, Bloom: open, Buckets: []uint32{2}, Chains: []uint32{hashA, hashA, 8, hashA, hashA + 1}}
	wantFind(t, "the first one", x, "a", "- - a b a a b", 2)
	wantFind(t, "the first one", x, "b", "- - a b a a b", 3)
	wantFind(t, "another Chain", x, "a", "- - b b a b a", 6)
	wantFind(t, "the last one", x, "b", "- - a a b a b", 6)
	wantFind(t, "none", x, "a", "- - b b b b b", 0)
	wantFind(t, "those below First are none", x, "a", "a a b b b b b", 0)
	wantFind(t, "fewer", x, "b", "- - a b", 3)
	wantFind(t, "fewer", x, "b", "- - a", 0)
	wantFind(t, "fewer", x, "a", "a", 0)
	wantFind(t, "none of them", x, "a", "", 0)
	wantFind(t, "more", x, "b", "- - a a a a b b b", 6)
	wantFind(t, "more, and all beyond", x, "b", "- - a a a a a b b", 0)
	wantFind(t, "another hash", x, "c", "- - c c c c c", 0)
	wantFind(t, "no table", Table{}, "a", "a a", 0)
	far := Table{First: math.MaxUint32, Bloom: open, Buckets: []uint32{math.MaxUint32}, Chains: []uint32{hashA + 1}}
	wantFind(t, "far away", far, "a", "a a a", 0)
	x.Bloom = []uint64{math.MaxUint64 - 1<<6}
	wantFind(t, "not through the filter", x, "a", "- - a a a a a", 0)
	wantFind(t, "through the filter", x, "b", "- - b b b b b", 2)
	// Where First is 0, a Bucket of 0 tells the symbol 0.
	zero := Table{Bloom: open, Buckets: []uint32{0}, Chains: []uint32{hashA + 1}}
	if i, ok := zero.Find("a", []string{"a"}); i != 0 || !ok {
		t.Error(i, ok)
	}
}

// P14.3: names that the filter lets through, and that aren't there: of another Bucket, of another hash, of the same hash.
func TestFindNone(t *testing.T) {
	names := []string{"", "aB"}
	x, ok := Build(names[1:], 1, 1, 1, 0)
	if !ok || !x.May("b!") {
		t.Fatal(x, ok)
	}
	wantWalk(t, "the same hash", x, "b!", 1)
	if i, ok := x.Find("b!", names); i != 0 || ok {
		t.Error(i, ok)
	}
	let := 0
	for _, none := range many(2000) {
		if i, ok := x.Find(none, names); i != 0 || ok {
			t.Error(none, i, ok)
		}
		if x.May(none) {
			let++
			wantWalk(t, "another hash", x, none)
		}
	}
	if let == 0 {
		t.Error("the filter lets none through")
	}
	// The names of one even Bucket, and one that is odd.
	x = Table{First: 1, Bloom: open, Buckets: []uint32{1, 0}, Chains: []uint32{hashA + 1}}
	wantFind(t, "its Bucket is 0", x, "b", "- b", 0)
}

// P14.3: First and the Chains, of tables whose parts were set by hand.
func TestSymbols(t *testing.T) {
	for _, c := range []struct {
		x    Table
		want int
	}{
		{Table{}, 0},
		{Table{First: 3}, 3},
		{Table{First: 3, Chains: make([]uint32, 4)}, 7},
		{Table{Chains: make([]uint32, 4), Buckets: []uint32{9, 9}, Bloom: open}, 4},
		{Table{First: math.MaxUint32, Chains: make([]uint32, 4)}, math.MaxUint32 + 4},
	} {
		if got := c.x.Symbols(); got != c.want {
			t.Errorf("%v: %d", c.x, got)
		}
	}
}

// P14.4: each name of which a table was made is found, with its symbol or an earlier one of the name; no other one is.
func TestFound(t *testing.T) {
	for _, n := range []int{0, 1, 2, 30, 120} {
		for _, buckets := range []int{1, 2, 7, 64, 256} {
			for _, words := range []int{1, 2, 16, 256} {
				for _, shift := range []int{0, 6, 31, 32, 63} {
					l := ordered(slices.Concat(many(n), many(n/2)), buckets)
					first := 1 + shift
					x, ok := Build(l, first, buckets, words, shift)
					y, f := Read(x.Put())
					if !ok || !f.OK() {
						t.Fatal(n, buckets, words, shift, ok, f)
					}
					names := append(make([]string, first), l...)
					names[first-1] = "below First"
					for _, name := range l {
						want := first + slices.Index(l, name)
						if i, ok := y.Find(name, names); i != want || !ok || !y.May(name) {
							t.Errorf("%q is %d %v, not %d", name, i, ok, want)
						}
					}
					for _, none := range []string{"", "name", "name120", "Name1", "name1\x00", "\xff", "below First"} {
						if i, ok := y.Find(none, names); i != 0 || ok {
							t.Errorf("%q is %d %v", none, i, ok)
						}
					}
				}
			}
		}
	}
}

// modelRead: what bytes are read as, each fault by itself, in the chapter's order.
func modelRead(b string) (Table, api.Errno, uint64) {
	four := func(at int) int { return int(binary.LittleEndian.Uint32([]byte(b[at : at+4]))) }
	if len(b) < 16 {
		return Table{}, api.ErrShort, 0
	}
	buckets, first, words := four(0), four(4), four(8)
	if buckets == 0 || words == 0 {
		return Table{}, api.ErrForm, 0
	}
	if buckets > 256 || words > 256 || first > 256 {
		return Table{}, api.ErrLimit, 0
	}
	chains := 16 + 8*words + 4*buckets
	if len(b) < chains {
		return Table{}, api.ErrShort, 0
	}
	x := Table{First: uint32(first), Shift: uint32(four(12))}
	for i := range words {
		x.Bloom = append(x.Bloom, binary.LittleEndian.Uint64([]byte(b[16+8*i:])))
	}
	for i := range buckets {
		at := 16 + 8*words + 4*i
		if n := four(at); n != 0 && (n < first || n >= 256) {
			return Table{}, api.ErrRange, uint64(at)
		}
		x.Buckets = append(x.Buckets, uint32(four(at)))
	}
	greatest := int(slices.Max(x.Buckets))
	for symbol := first; greatest != 0; symbol++ {
		at := chains + 4*(symbol-first)
		switch {
		case symbol >= 256:
			return Table{}, api.ErrLimit, 0
		case at+4 > len(b):
			return Table{}, api.ErrShort, 0
		}
		x.Chains = append(x.Chains, uint32(four(at)))
		if symbol >= greatest && four(at)%2 == 1 {
			break
		}
	}
	return x, api.OK, 0
}

// P14.1: bytes of all sorts, most of them nearly a table's.
func TestReadAny(t *testing.T) {
	r := rand.New(rand.NewSource(1))
	met := map[api.Errno]int{}
	for range 40000 {
		first := r.Intn(6)
		if r.Intn(3) == 0 {
			first = 250 + r.Intn(8)
		}
		x := Table{First: uint32(first), Shift: r.Uint32(), Bloom: make([]uint64, r.Intn(3)), Buckets: make([]uint32, r.Intn(4)), Chains: make([]uint32, r.Intn(12))}
		for i := range x.Buckets {
			if r.Intn(3) > 0 {
				x.Buckets[i] = uint32(max(first+r.Intn(8)-r.Intn(20)/19, 0))
			}
		}
		for i := range x.Chains {
			x.Chains[i] = r.Uint32() &^ uint32(r.Intn(3))
		}
		b := bytesOf(x)
		if r.Intn(4) == 0 {
			b = b[:r.Intn(len(b)+1)]
		}
		want, e, at := modelRead(b)
		met[e]++
		if e == api.OK {
			wantTable(t, "any", b, want)
		} else {
			wantFault(t, "any", b, e, at)
		}
	}
	for _, e := range []api.Errno{api.OK, api.ErrShort, api.ErrForm, api.ErrLimit, api.ErrRange} {
		if met[e] < 100 {
			t.Errorf("%q was met %d times", fail.Word(e), met[e])
		}
	}
}
