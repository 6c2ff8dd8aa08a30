package le

import (
	"math"
	"strings"
	"testing"
)

var noSizes = []int{math.MinInt, -8, -1, 0, 9, 16, math.MaxInt}

// farPlaces are beyond every text here; those near 2^64 go round when a size is added.
var farPlaces = []uint64{1 << 31, 1 << 32, 1 << 63, math.MaxUint64 - 7, math.MaxUint64 - 1, math.MaxUint64}

var someNumbers = []uint64{0, 1, 127, 128, 255, 256, 258, 0x8000, 0xfffe, 0x0102030405060708, 1 << 63, math.MaxUint64}

// P1.1.
func TestPut(t *testing.T) {
	for _, c := range []struct {
		n    uint64
		size int
		want string
	}{
		{258, 4, "\x02\x01\x00\x00"},
		{258, 1, "\x02"},
		{0, 3, "\x00\x00\x00"},
		{0x0102030405060708, 8, "\x08\x07\x06\x05\x04\x03\x02\x01"},
		{0x0102030405060708, 5, "\x08\x07\x06\x05\x04"},
		{math.MaxUint64, 7, "\xff\xff\xff\xff\xff\xff\xff"},
		{1 << 63, 8, "\x00\x00\x00\x00\x00\x00\x00\x80"},
	} {
		if got := Put(c.n, c.size); got != c.want {
			t.Errorf("Put(%d, %d) = %x", c.n, c.size, got)
		}
	}
	for _, size := range noSizes {
		if got := Put(math.MaxUint64, size); got != "" {
			t.Errorf("Put of the size %d = %x", size, got)
		}
	}
}

// P1.1.
func TestGet(t *testing.T) {
	for _, c := range []struct {
		s    string
		want uint64
	}{
		{"", 0},
		{"\x80", 128},
		{"\x02\x01\x00\x00", 258},
		{"\x00\x00\x01", 65536},
		{"\x08\x07\x06\x05\x04\x03\x02\x01", 0x0102030405060708},
		{strings.Repeat("\xff", 8), math.MaxUint64},
		{strings.Repeat("\xff", 9), 0},
		{"\x01" + strings.Repeat("\x00", 8), 0},
		{strings.Repeat("a", 1000), 0},
	} {
		if got := Get(c.s); got != c.want {
			t.Errorf("Get(%x) = %d", c.s, got)
		}
	}
}

// P1.1: what was put is got, modulo 2^(8 size).
func TestPutGet(t *testing.T) {
	for _, n := range someNumbers {
		for size := 1; size <= 8; size++ {
			want := n
			if size < 8 {
				want = n % (1 << (8 * size))
			}
			s := Put(n, size)
			if len(s) != size || Get(s) != want {
				t.Errorf("Get(Put(%d, %d)) = %d of %x", n, size, Get(s), s)
			}
		}
	}
}

// P1.2: each place and length of a short text, and those just beyond it.
func TestPart(t *testing.T) {
	const s = "abcde"
	for at := range len(s) + 3 {
		for n := range len(s) + 3 {
			got, ok := Part(s, uint64(at), uint64(n))
			if there := at+n <= len(s); ok != there || ok && got != s[at:at+n] || !ok && got != "" {
				t.Errorf("Part(%d, %d) = %q %v", at, n, got, ok)
			}
		}
	}
	for _, far := range farPlaces {
		for near := range uint64(9) {
			if got, ok := Part(s, far, near); ok || got != "" {
				t.Errorf("Part(%d, %d) = %q %v", far, near, got, ok)
			}
			if got, ok := Part(s, near, far); ok || got != "" {
				t.Errorf("Part(%d, %d) = %q %v", near, far, got, ok)
			}
		}
	}
	if got, ok := Part("", 0, 0); !ok || got != "" {
		t.Error("none of none", got, ok)
	}
	if got, ok := Part("", 1, 0); ok || got != "" {
		t.Error("none of none, beyond it", got, ok)
	}
}

// P1.2.
func TestAt(t *testing.T) {
	const s = "\x01\x02\x03\x04\x05\x06\x07\x08\x09"
	for at := range len(s) + 2 {
		for size := 1; size <= 8; size++ {
			got, ok := At(s, uint64(at), size)
			there := at+size <= len(s)
			var want uint64
			if there {
				want = Get(s[at : at+size])
			}
			if ok != there || got != want {
				t.Errorf("At(%d, %d) = %x %v", at, size, got, ok)
			}
		}
	}
	if got, ok := At(s, 1, 3); !ok || got != 0x040302 {
		t.Error(got, ok)
	}
	for _, size := range noSizes {
		if got, ok := At(strings.Repeat("a", 32), 0, size); ok || got != 0 {
			t.Errorf("At of the size %d = %d %v", size, got, ok)
		}
	}
	for _, far := range farPlaces {
		if got, ok := At(s, far, 8); ok || got != 0 {
			t.Errorf("At(%d, 8) = %d %v", far, got, ok)
		}
	}
}

// P1.2.
func TestWith(t *testing.T) {
	const s = "abcdefghij"
	const n = 0x3837363534333231
	for at := range len(s) + 2 {
		for size := 1; size <= 8; size++ {
			got, ok := With(s, uint64(at), n, size)
			there := at+size <= len(s)
			want := ""
			if there {
				want = s[:at] + "12345678"[:size] + s[at+size:]
			}
			if ok != there || got != want {
				t.Errorf("With(%d, %d) = %q %v", at, size, got, ok)
			}
		}
	}
	for _, size := range noSizes {
		if got, ok := With(strings.Repeat("a", 32), 0, n, size); ok || got != "" {
			t.Errorf("With the size %d = %q %v", size, got, ok)
		}
	}
	for _, far := range farPlaces {
		if got, ok := With(s, far, n, 8); ok || got != "" {
			t.Errorf("With(%d, 8) = %q %v", far, got, ok)
		}
	}
}

// P1.3.
func TestText(t *testing.T) {
	const s = "ab\x00\x00cde\x00f"
	for _, c := range []struct {
		at   uint64
		most int
		want string
		ok   bool
	}{
		{0, 2, "ab", true},
		{0, 1, "", false},
		{0, math.MaxInt, "ab", true},
		{1, 1, "b", true},
		{2, 0, "", true},
		{3, 5, "", true},
		{2, -1, "", false},
		{2, math.MinInt, "", false},
		{4, 3, "cde", true},
		{4, 2, "", false},
		{7, 0, "", true},
		{8, 100, "", false},
		{9, 100, "", false},
		{10, 100, "", false},
	} {
		if got, ok := Text(s, c.at, c.most); got != c.want || ok != c.ok {
			t.Errorf("Text(%d, %d) = %q %v", c.at, c.most, got, ok)
		}
	}
	for _, far := range farPlaces {
		if got, ok := Text(s, far, math.MaxInt); ok || got != "" {
			t.Errorf("Text(%d) = %q %v", far, got, ok)
		}
	}
	if got, ok := Text("", 0, 1); ok || got != "" {
		t.Error("of none", got, ok)
	}
}

// gather what is ranged over, after having held the numbers against 0, 1, 2 ..
func gather(t *testing.T, parts func(func(int, string) bool)) []string {
	t.Helper()
	var l []string
	for i, p := range parts {
		if i != len(l) {
			t.Errorf("the part %d has the number %d", len(l), i)
		}
		l = append(l, p)
	}
	return l
}

// P1.4.
func TestEach(t *testing.T) {
	for _, c := range []struct {
		s    string
		size int
		want string
	}{
		{"aabbc", 2, "aa bb"},
		{"aabbcc", 2, "aa bb cc"},
		{"abc", 1, "a b c"},
		{"abc", 3, "abc"},
		{"abc", 4, ""},
		{"abc", math.MaxInt, ""},
		{"", 1, ""},
		{"abc", 0, ""},
		{"abc", -1, ""},
		{"abc", math.MinInt, ""},
	} {
		parts := Each(c.s, c.size)
		for range 2 {
			if got := strings.Join(gather(t, parts), " "); got != c.want {
				t.Errorf("Each(%q, %d): %q", c.s, c.size, got)
			}
		}
	}
}

// P1.4, and the rule that what is ranged over ends as soon as it is told to.
func TestEachEnds(t *testing.T) {
	parts := Each("abcdef", 1)
	for stop := range 6 {
		met := 0
		parts(func(i int, p string) bool {
			met++
			return i < stop
		})
		if met != stop+1 {
			t.Errorf("told to end at %d: %d parts", stop, met)
		}
	}
}

// P1.4.
func TestExtend(t *testing.T) {
	for _, c := range []struct {
		n    uint64
		bits int
		want uint64
	}{
		{255, 8, math.MaxUint64},
		{127, 8, 127},
		{128, 8, math.MaxUint64 - 127},
		{0x7ff, 12, 0x7ff},
		{0xfff, 12, math.MaxUint64},
		{0xf7ff, 12, 0x7ff},
		{0x0800, 12, math.MaxUint64 - 0x7ff},
		{1, 1, math.MaxUint64},
		{2, 1, 0},
		{1 << 62, 63, 3 << 62},
		{1 << 63, 63, 0},
		{1<<62 - 1, 63, 1<<62 - 1},
	} {
		if got := Extend(c.n, c.bits); got != c.want {
			t.Errorf("Extend(%x, %d) = %x", c.n, c.bits, got)
		}
	}
	for _, bits := range []int{math.MinInt, -1, 0, 64, 65, 128, math.MaxInt} {
		for _, n := range someNumbers {
			if got := Extend(n, bits); got != n {
				t.Errorf("Extend(%x, %d) = %x", n, bits, got)
			}
		}
	}
}

// P1.4: bit by bit.
func TestExtendEachBit(t *testing.T) {
	for bits := 1; bits <= 63; bits++ {
		for _, n := range append(someNumbers, 0x5555555555555555, 0xaaaaaaaaaaaaaaaa) {
			got := Extend(n, bits)
			for i := range 64 {
				from := min(i, bits-1)
				if got>>i&1 != n>>from&1 {
					t.Errorf("Extend(%x, %d) = %x, wrong at the bit %d", n, bits, got, i)
				}
			}
		}
	}
}
