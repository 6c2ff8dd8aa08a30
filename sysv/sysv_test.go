package sysv

import (
	"encoding/binary"
	"fmt"
	"math"
	"math/rand"
	"slices"
	"strings"
	"testing"

	"turnbuckle/api"
	"turnbuckle/fail"
	"turnbuckle/vers"
)

// highest is the highest bit of a number of four bytes.
const highest = 1 << 31

// quads: the bytes of numbers of four bytes each, one behind the other.
func quads(l ...uint32) string {
	var b []byte
	for _, n := range l {
		b = binary.LittleEndian.AppendUint32(b, n)
	}
	return string(b)
}

// bytesOf a table, as the chapter lists them.
func bytesOf(x Table) string {
	return quads(uint32(len(x.Buckets)), uint32(len(x.Chains))) + quads(x.Buckets...) + quads(x.Chains...)
}

// same: have two tables the same numbers?
func same(x, y Table) bool {
	return slices.Equal(x.Buckets, y.Buckets) && slices.Equal(x.Chains, y.Chains)
}

// wantTable: bytes are read as this table.
func wantTable(t *testing.T, what, b string, want Table) {
	t.Helper()
	if got, f := Read(b); f != (fail.Fault{}) || !same(got, want) {
		t.Errorf("%s: %v %v, not %v", what, got, f, want)
	}
}

// wantFault: bytes aren't read, and nothing but the fault is told.
func wantFault(t *testing.T, what, b string, e api.Errno, at uint64) {
	t.Helper()
	if got, f := Read(b); f != (fail.Fault{Code: e, At: at}) || got.Buckets != nil || got.Chains != nil {
		t.Errorf("%s: %v %q at %d, not %q at %d", what, got, fail.Word(f.Code), f.At, fail.Word(e), at)
	}
}

// walked: the symbols of a walk, which is gone through twice.
func walked(t *testing.T, x Table, name string) []int {
	t.Helper()
	walk := x.Walk(name)
	var first, second []int
	for i := range walk {
		first = append(first, i)
	}
	for i := range walk {
		second = append(second, i)
	}
	if !slices.Equal(first, second) {
		t.Errorf("%v: %v at first, then %v", x, first, second)
	}
	return first
}

// wantWalk: the walk of a name comes by these symbols.
func wantWalk(t *testing.T, what string, x Table, name string, want ...int) {
	t.Helper()
	if got := walked(t, x, name); !slices.Equal(got, want) {
		t.Errorf("%s: the walk of %q in %v comes by %v, not %v", what, name, x, got, want)
	}
}

// many names: so many, all of them different but the first, which is empty.
func many(n int) []string {
	var l []string
	for i := range n {
		l = append(l, fmt.Sprintf("name%d", i))
	}
	if n > 0 {
		l[0] = ""
	}
	return l
}

// bucketOf a name among so many.
func bucketOf(name string, buckets int) int { return int(vers.Hash(name) % uint32(buckets)) }

// P13.2: the chapter's example.
func TestExample(t *testing.T) {
	x, ok := Build([]string{"", "a", "b"}, 1)
	if !ok || !same(x, Table{[]uint32{2}, []uint32{0, 0, 1}}) {
		t.Error(x, ok)
	}
	if got := x.Put(); got != quads(1, 3, 2, 0, 0, 1) {
		t.Errorf("%x", got)
	}
}

// P13.1: ordinary tables, and what is behind them.
func TestRead(t *testing.T) {
	x := Table{[]uint32{2, 0, 1}, []uint32{0, 3, 1, 2, 0}}
	for _, behind := range []string{"", "\x00", "abc", quads(9, highest), strings.Repeat("\xff", 2000)} {
		wantTable(t, "five symbols", bytesOf(x)+behind, x)
		wantTable(t, "no symbol", quads(1, 0, 0)+behind, Table{[]uint32{0}, nil})
		wantTable(t, "no symbol, two Buckets", quads(2, 0, 0, 0)+behind, Table{[]uint32{0, 0}, nil})
		wantTable(t, "one symbol", quads(1, 1, 0, 0)+behind, Table{[]uint32{0}, []uint32{0}})
		wantTable(t, "all Buckets 0", quads(3, 2, 0, 0, 0, 1, 0)+behind, Table{[]uint32{0, 0, 0}, []uint32{1, 0}})
	}
}

// P13.1: less than eight bytes, and just eight.
func TestReadHead(t *testing.T) {
	for n := range 8 {
		for _, c := range []string{"\x00", "\x01", "\xff"} {
			wantFault(t, "head", strings.Repeat(c, n), api.ErrShort, 0)
		}
		wantFault(t, "head cut", quads(1, 0)[:n], api.ErrShort, 0)
	}
	wantFault(t, "eight bytes, without the Bucket", quads(1, 0), api.ErrShort, 0)
	wantFault(t, "eight bytes, no Bucket", quads(0, 0), api.ErrForm, 0)
	wantFault(t, "eight bytes, too many", quads(257, 0), api.ErrLimit, 0)
}

// P13.1: no Buckets, whatever else is wrong.
func TestReadNoBuckets(t *testing.T) {
	for _, chains := range []uint32{0, 1, 2, 256, 257, highest, math.MaxUint32} {
		wantFault(t, "no Buckets", quads(0, chains), api.ErrForm, 0)
		wantFault(t, "no Buckets", quads(0, chains)+strings.Repeat("\x00", 2000), api.ErrForm, 0)
		wantFault(t, "no Buckets", quads(0, chains)+strings.Repeat("\xff", 2000), api.ErrForm, 0)
	}
}

// P13.1: just as many as there may be, and more, with their bytes and without.
func TestReadLimits(t *testing.T) {
	right := []uint32{0, 1, 2, 128, 255, 256}
	// Four times 2^30 is 0 in 32 bits.
	wrong := []uint32{257, 258, 512, 1 << 16, 1 << 24, 1 << 30, highest, highest + 1, math.MaxUint32}
	for _, buckets := range append(right[1:], wrong...) {
		for _, chains := range append(right, wrong...) {
			for _, behind := range []string{"", strings.Repeat("\x00", 4*600), strings.Repeat("\xff", 4*600)} {
				b := quads(buckets, chains) + behind
				switch all := int(buckets + chains); {
				case buckets > 256 || chains > 256:
					wantFault(t, "too many", b, api.ErrLimit, 0)
				case behind == "":
					wantFault(t, "none there", b, api.ErrShort, 0)
				case behind[0] != 0:
					wantFault(t, "out of range", b, api.ErrRange, 8)
				default:
					wantTable(t, "as many as there may be", b, Table{make([]uint32, buckets), make([]uint32, all)[buckets:]})
				}
			}
		}
	}
}

// P13.1: each length of bytes, of right numbers and of wrong ones, which are told only where all of them are there.
func TestReadCut(t *testing.T) {
	for buckets := uint32(1); buckets < 5; buckets++ {
		for chains := range uint32(5) {
			count := buckets + chains
			right := quads(buckets, chains) + strings.Repeat("\x00", int(4*count))
			wrong := quads(buckets, chains) + strings.Repeat("\xff", int(4*count))
			for n := range len(right) {
				wantFault(t, "cut", right[:n], api.ErrShort, 0)
				wantFault(t, "cut, and out of range", wrong[:n], api.ErrShort, 0)
			}
			wantTable(t, "whole", right, Table{make([]uint32, buckets), make([]uint32, chains)})
			wantFault(t, "whole, and out of range", wrong, api.ErrRange, 8)
		}
	}
	b := quads(256, 256) + strings.Repeat("\x00", 4*512)
	wantTable(t, "the last byte is there", b, Table{make([]uint32, 256), make([]uint32, 256)})
	wantFault(t, "the last byte isn't there", b[:len(b)-1], api.ErrShort, 0)
}

// P13.1: each Bucket and each Chain, of numbers around the bound and far beyond it; of two that are wrong the first one.
func TestReadRange(t *testing.T) {
	for _, chains := range []uint32{0, 1, 2, 3, 255, 256} {
		const buckets = 3
		for place := range buckets + chains {
			set := func(n uint32) (Table, string) {
				l := make([]uint32, buckets+chains)
				l[place] = n
				x := Table{l[:buckets], l[buckets:]}
				return x, bytesOf(x)
			}
			for _, n := range []uint32{0, 1, chains - 1, chains, chains + 1, 256, 257, highest, highest + 1, math.MaxUint32} {
				x, b := set(n)
				if n == 0 || n < chains {
					wantTable(t, "in range", b, x)
				} else {
					wantFault(t, "out of range", b, api.ErrRange, uint64(8+4*place))
				}
			}
			for later := place + 1; later < buckets+chains; later++ {
				x, _ := set(chains + 1)
				if later < buckets {
					x.Buckets[later] = math.MaxUint32
				} else {
					x.Chains[later-buckets] = math.MaxUint32
				}
				wantFault(t, "two out of range", bytesOf(x), api.ErrRange, uint64(8+4*place))
			}
		}
	}
}

// P13.1: each bit of a number that is too great.
func TestReadBits(t *testing.T) {
	for bit := range 32 {
		n := uint32(1) << bit
		if n < 200 {
			wantTable(t, "bit", quads(1, 200, n)+strings.Repeat("\x00", 800), Table{[]uint32{n}, make([]uint32, 200)})
		} else {
			wantFault(t, "bit", quads(1, 200, n)+strings.Repeat("\x00", 800), api.ErrRange, 8)
		}
		wantFault(t, "bit of a Chain", quads(1, 1, 0, n), api.ErrRange, 12)
	}
}

// P13.1, and the rule that answers are new memory: the parts share nothing, neither with one another nor with another answer.
func TestReadParts(t *testing.T) {
	b := quads(2, 3, 1, 2, 0, 1, 2)
	x, f := Read(b)
	y, f2 := Read(b)
	if !f.OK() || !f2.OK() {
		t.Fatal(f, f2)
	}
	if cap(x.Buckets) != len(x.Buckets) || cap(x.Chains) != len(x.Chains) {
		t.Error("there is room behind a part")
	}
	_ = append(x.Buckets, 9)
	_ = append(x.Chains, 9)
	if want := (Table{[]uint32{1, 2}, []uint32{0, 1, 2}}); !same(x, want) {
		t.Error(x)
	}
	x.Buckets[0], x.Chains[0] = 7, 8
	if want := (Table{[]uint32{1, 2}, []uint32{0, 1, 2}}); !same(y, want) {
		t.Error(y)
	}
}

// P13.1: what Put makes is read again, and what was read is put again.
func TestPutRead(t *testing.T) {
	for _, n := range []int{1, 2, 3, 17, 255, 256} {
		for _, buckets := range []int{1, 2, 7, 255, 256} {
			x, ok := Build(many(n), buckets)
			if !ok {
				t.Fatal(n, buckets)
			}
			b := x.Put()
			if b != bytesOf(x) {
				t.Errorf("%d names, %d Buckets: %x", n, buckets, b)
			}
			wantTable(t, "again", b, x)
			wantTable(t, "again, and more", b+"more", x)
			y, _ := Read(b + "more")
			if y.Put() != b {
				t.Errorf("%d names, %d Buckets: put again", n, buckets)
			}
		}
	}
}

// P13.1: tables whose parts were set by hand.
func TestPutByHand(t *testing.T) {
	for _, x := range []Table{
		{},
		{Buckets: []uint32{}, Chains: []uint32{}},
		{Buckets: []uint32{1}},
		{Chains: []uint32{1, 2}},
		{[]uint32{highest, 0x01020304}, []uint32{math.MaxUint32}},
		{make([]uint32, 300), make([]uint32, 400)},
	} {
		if got := x.Put(); got != bytesOf(x) {
			t.Errorf("%v: %x", x, got)
		}
	}
}

// P13.2: how many Buckets and names there may be.
func TestBuildLimits(t *testing.T) {
	for _, buckets := range []int{math.MinInt, -256, -1, 0, 1, 2, 255, 256, 257, 512, 1 << 32, 1<<32 + 1, math.MaxInt} {
		for _, n := range []int{0, 1, 2, 255, 256, 257, 512} {
			x, ok := Build(many(n), buckets)
			if right := buckets >= 1 && buckets <= 256 && n >= 1 && n <= 256; ok != right {
				t.Errorf("%d names, %d Buckets: %v", n, buckets, ok)
			} else if right && (len(x.Buckets) != buckets || len(x.Chains) != n) {
				t.Errorf("%d names, %d Buckets: %d Chains, %d Buckets", n, buckets, len(x.Chains), len(x.Buckets))
			} else if !right && (x.Buckets != nil || x.Chains != nil) {
				t.Errorf("%d names, %d Buckets: %v beside a false", n, buckets, x)
			}
		}
	}
	if _, ok := Build([]string{}, 1); ok {
		t.Error("no names")
	}
}

// built: the table of names, each number by itself: the last one of a Bucket, and the last one ahead of each name.
func built(names []string, buckets int) Table {
	lastOf := func(bucket, end int) uint32 {
		for i := end - 1; i > 0; i-- {
			if bucketOf(names[i], buckets) == bucket {
				return uint32(i)
			}
		}
		return 0
	}
	var x Table
	for k := range buckets {
		x.Buckets = append(x.Buckets, lastOf(k, len(names)))
	}
	for i, name := range names {
		if i == 0 {
			x.Chains = append(x.Chains, 0)
		} else {
			x.Chains = append(x.Chains, lastOf(bucketOf(name, buckets), i))
		}
	}
	return x
}

// P13.2: the later ones of a Bucket ahead of the earlier ones, and each but the first one in its own walk.
func TestBuild(t *testing.T) {
	long := strings.Repeat("long", 1000)
	for _, names := range [][]string{
		{""},
		{"a"},
		{"", "a"},
		{"a", "a"},
		{"a", "b", "a", "a"},
		{"", "", ""},
		{"", "a", "b", "c", "a", "\x00", "\xff\xff", long, long + "x", "a"},
		many(40),
		many(256),
	} {
		for _, buckets := range []int{1, 2, 3, 16, 97, 255, 256} {
			x, ok := Build(names, buckets)
			if want := built(names, buckets); !ok || !same(x, want) {
				t.Errorf("%q, %d Buckets: %v %v, not %v", names, buckets, x, ok, want)
			}
			for i := 1; i < len(names); i++ {
				walk := walked(t, x, names[i])
				if !slices.Contains(walk, i) || slices.Contains(walk, 0) || !slices.IsSortedFunc(walk, func(a, b int) int { return b - a }) {
					t.Errorf("%q, %d Buckets: the walk of %d is %v", names, buckets, i, walk)
				}
			}
			if i, ok := x.Check(names); i != 0 || !ok {
				t.Errorf("%q, %d Buckets: Check tells %d", names, buckets, i)
			}
		}
	}
}

// P13.2, and the rule that what is handed in is not changed and not kept.
func TestBuildKeepsNothing(t *testing.T) {
	room := []string{"", "a", "b", "c", "behind"}
	names := room[:4]
	x, _ := Build(names, 2)
	want := bytesOf(x)
	if !slices.Equal(room, []string{"", "a", "b", "c", "behind"}) {
		t.Error(room)
	}
	names[1], names[2] = "x", "y"
	if y, _ := Build([]string{"", "q", "r"}, 2); &y.Buckets[0] == &x.Buckets[0] || bytesOf(x) != want {
		t.Error(x)
	}
	_ = append(x.Buckets, 9)
	_ = append(x.Chains, 9)
	if bytesOf(x) != want {
		t.Error(x)
	}
}

// P13.3: chains that end, that go round, and that lead astray; "a" is 97, so that its Bucket is the first one of one, and the
// second one of two or three.
func TestWalk(t *testing.T) {
	for _, c := range []struct {
		what            string
		buckets, chains []uint32
		want            []int
	}{
		{"nothing", nil, nil, nil},
		{"no Buckets", nil, []uint32{0, 1, 2}, nil},
		{"no Buckets", []uint32{}, []uint32{1}, nil},
		{"no Chains", []uint32{1}, nil, nil},
		{"no Chains, and 0", []uint32{0}, nil, nil},
		{"a Bucket of 0", []uint32{0}, []uint32{1, 1}, nil},
		{"the second Bucket of two", []uint32{1, 2}, []uint32{0, 0, 0}, []int{2}},
		{"the second Bucket of three", []uint32{1, 2, 3}, []uint32{0, 0, 3, 0}, []int{2, 3}},
		{"one symbol", []uint32{1}, []uint32{0, 0}, []int{1}},
		{"down", []uint32{4}, []uint32{0, 0, 1, 2, 3}, []int{4, 3, 2, 1}},
		{"up", []uint32{1}, []uint32{0, 2, 3, 4, 0}, []int{1, 2, 3, 4}},
		{"up and beyond", []uint32{1}, []uint32{0, 2, 3, 4, 5}, []int{1, 2, 3, 4}},
		{"the last Chain", []uint32{4}, []uint32{0, 0, 0, 0, 0}, []int{4}},
		{"just beyond the last Chain", []uint32{5}, []uint32{0, 0, 0, 0, 0}, nil},
		{"a Bucket far beyond", []uint32{highest}, []uint32{0, 0}, nil},
		{"a Bucket far beyond", []uint32{highest + 1}, []uint32{0, 0}, nil},
		{"a Bucket far beyond", []uint32{math.MaxUint32}, []uint32{0, 0}, nil},
		{"a Chain far beyond", []uint32{1}, []uint32{0, math.MaxUint32}, []int{1}},
		{"a Chain far beyond", []uint32{1}, []uint32{0, highest}, []int{1}},
		{"round by itself", []uint32{1}, []uint32{0, 1}, []int{1, 1}},
		{"round by itself, of four", []uint32{3}, []uint32{0, 0, 0, 3}, []int{3, 3, 3, 3}},
		{"round through another", []uint32{1}, []uint32{0, 2, 1}, []int{1, 2, 1}},
		{"round through two others", []uint32{2}, []uint32{0, 2, 3, 1, 0}, []int{2, 3, 1, 2, 3}},
		{"into a round", []uint32{4}, []uint32{0, 2, 1, 0, 3, 0}, []int{4, 3}},
		{"into a round", []uint32{4}, []uint32{0, 2, 1, 1, 3, 0}, []int{4, 3, 1, 2, 1, 2}},
		{"the Chain at 0 doesn't matter", []uint32{1}, []uint32{1, 0}, []int{1}},
		{"as many symbols as Chains, and no more", []uint32{1}, []uint32{9, 2, 1, 0}, []int{1, 2, 1, 2}},
	} {
		wantWalk(t, c.what, Table{c.buckets, c.chains}, "a", c.want...)
	}
	wantWalk(t, "the Bucket by layer 12's hash", Table{[]uint32{1, 2, 3, 4, 5, 6, 7}, make([]uint32, 8)}, "ab", 1650%7+1)
	wantWalk(t, "the Bucket of the empty name", Table{[]uint32{1, 2, 3}, make([]uint32, 8)}, "", 1)
	wantWalk(t, "the Bucket of a great hash", Table{[]uint32{1, 2, 3, 4, 5}, make([]uint32, 8)}, "\xff\xff\xff\xff\xff\xff\xff", int(vers.Hash("\xff\xff\xff\xff\xff\xff\xff")%5)+1)
}

// P13.3: a walk ends as soon as it is told to, also one that goes round.
func TestWalkEnds(t *testing.T) {
	for _, x := range []Table{
		{[]uint32{4}, []uint32{0, 0, 1, 2, 3}},
		{[]uint32{1}, []uint32{0, 2, 3, 4, 1}},
		{[]uint32{2}, []uint32{0, 0, 2, 0, 0}},
	} {
		walk := x.Walk("a")
		for stop := range 4 {
			met := 0
			walk(func(int) bool {
				met++
				return met <= stop
			})
			if met != stop+1 {
				t.Errorf("%v: told to end at %d: %d symbols", x, stop, met)
			}
		}
	}
}

// P13.3: the walk of all sorts of tables, held against the chapter's words, and nothing of a table changes.
func TestWalkAny(t *testing.T) {
	r := rand.New(rand.NewSource(1))
	for range 3000 {
		x := Table{make([]uint32, r.Intn(4)), make([]uint32, r.Intn(7))}
		for _, l := range [][]uint32{x.Buckets, x.Chains} {
			for i := range l {
				l[i] = uint32(r.Intn(9))
				if r.Intn(20) == 0 {
					l[i] |= highest
				}
			}
		}
		before := bytesOf(x)
		for _, name := range []string{"", "a", "b", "ab", "puts"} {
			var want []int
			if len(x.Buckets) > 0 {
				at := x.Buckets[bucketOf(name, len(x.Buckets))]
				for at != 0 && at < uint32(len(x.Chains)) && len(want) < len(x.Chains) {
					want = append(want, int(at))
					at = x.Chains[at]
				}
			}
			wantWalk(t, "any", x, name, want...)
			x.Find(name, []string{"", "a", "b"})
			x.Check([]string{"", "a", "b", name})
		}
		if bytesOf(x) != before {
			t.Errorf("%v was changed", x)
		}
	}
}

// P13.3: the first of the walk, by its place in names, of which there may be fewer or more than symbols.
func TestFind(t *testing.T) {
	x := Table{[]uint32{4}, []uint32{0, 0, 1, 2, 3}}
	for _, c := range []struct {
		what, name, names string
		want              int
		ok                bool
	}{
		{"the last one first", "a", "- a b a b", 3, true},
		{"the last one", "b", "- a b a b", 4, true},
		{"the first one", "c", "- c b a b", 1, true},
		{"none", "d", "- a b a b", 0, false},
		{"that at 0 is no symbol's", "d", "d a b a b", 0, false},
		{"part of a name", "a", "- ab aa", 0, false},
		{"fewer", "a", "- a b a", 3, true},
		{"fewer", "a", "- a b", 1, true},
		{"fewer", "a", "-", 0, false},
		{"more", "a", "- x a x x a a", 2, true},
		{"more, and all beyond", "a", "- x x x x a a", 0, false},
	} {
		names := strings.Fields(c.names)
		for _, l := range [][]string{names, append(names, "a")[:len(names)]} {
			if got, ok := x.Find(c.name, l); got != c.want || ok != c.ok {
				t.Errorf("%s: %q is %d %v", c.what, c.name, got, ok)
			}
		}
	}
	if got, ok := x.Find("a", nil); got != 0 || ok {
		t.Error("no names", got, ok)
	}
	if got, ok := (Table{}).Find("a", []string{"a", "a"}); got != 0 || ok {
		t.Error("no table", got, ok)
	}
	if got, ok := (Table{[]uint32{1}, []uint32{0, 2, 1}}).Find("a", []string{"", "b", "a"}); got != 2 || !ok {
		t.Error("round", got, ok)
	}
	if got, ok := (Table{[]uint32{1}, []uint32{0, 2, 1, 0}}).Find("a", []string{"", "b", "b", "a"}); got != 0 || ok {
		t.Error("round, ahead of it", got, ok)
	}
	if got, ok := (Table{[]uint32{1, 0}, []uint32{0, 0}}).Find("a", []string{"", "a"}); got != 0 || ok {
		t.Error("in another Bucket", got, ok)
	}
}

// P13.2, P13.3: what was built is found, the last one of as many of a name, and nothing else is.
func TestBuildFind(t *testing.T) {
	names := append(many(200), many(20)...)
	for _, buckets := range []int{1, 2, 64, 256} {
		x, _ := Build(names, buckets)
		for i := 1; i < len(names); i++ {
			want := i
			for j := i; j < len(names); j++ {
				if names[j] == names[i] {
					want = j
				}
			}
			if got, ok := x.Find(names[i], names); got != want || !ok {
				t.Errorf("%d Buckets: %q is %d %v, not %d", buckets, names[i], got, ok, want)
			}
		}
		for _, none := range []string{"name", "name200", "Name1", "name1\x00", "\xff"} {
			if got, ok := x.Find(none, names); got != 0 || ok {
				t.Errorf("%d Buckets: %q is %d %v", buckets, none, got, ok)
			}
		}
	}
	// The first name is no symbol's.
	x, _ := Build([]string{"a", "b"}, 1)
	if got, ok := x.Find("a", []string{"a", "b"}); got != 0 || ok {
		t.Error(got, ok)
	}
}

// P13.3: each one symbol that is missed, and of several the least.
func TestCheck(t *testing.T) {
	names := []string{"", "a", "b", "c", "a", "e"}
	// The walk goes down from 5; what led to a symbol leads elsewhere.
	instead := func(symbol int, n uint32) Table {
		x := Table{[]uint32{5}, []uint32{0, 0, 1, 2, 3, 4}}
		if symbol == 5 {
			x.Buckets[0] = n
		} else {
			x.Chains[symbol+1] = n
		}
		return x
	}
	for symbol := 1; symbol < len(names); symbol++ {
		if i, ok := instead(symbol, uint32(symbol)).Check(names); i != 0 || !ok {
			t.Error("none is missed", i, ok)
		}
		without := instead(symbol, uint32(symbol-1))
		if i, ok := without.Check(names); i != symbol || ok {
			t.Errorf("%d is missed: %d %v", symbol, i, ok)
		}
		if i, ok := without.Check(names[:symbol]); i != 0 || !ok {
			t.Errorf("%d is missed, and isn't asked: %d %v", symbol, i, ok)
		}
		if i, ok := instead(symbol, 0).Check(names); i != 1 || ok {
			t.Errorf("all up to %d are missed: %d %v", symbol, i, ok)
		}
		if i, ok := instead(symbol, 6).Check(names); i != 1 || ok {
			t.Errorf("astray ahead of %d: %d %v", symbol, i, ok)
		}
		if i, ok := instead(symbol, 5).Check(names); symbol < 5 && (i != 1 || ok) {
			t.Errorf("round ahead of %d: %d %v", symbol, i, ok)
		}
	}
}

// P13.3: how many symbols are asked: as many as there are Chains and names, but the first one.
func TestCheckBounds(t *testing.T) {
	for chains := range 5 {
		for n := range 5 {
			x := Table{[]uint32{0}, make([]uint32, chains)}
			i, ok := x.Check(many(n))
			if asked := chains > 1 && n > 1; ok == asked || asked && i != 1 || !asked && i != 0 {
				t.Errorf("%d Chains, %d names: %d %v", chains, n, i, ok)
			}
			// All are in the walk, as far as there are Chains.
			x.Buckets[0] = uint32(max(chains-1, 0))
			for k := range x.Chains {
				x.Chains[k] = uint32(max(k-1, 0))
			}
			if i, ok := x.Check(many(n)); i != 0 || !ok {
				t.Errorf("%d Chains, %d names, all in the walk: %d %v", chains, n, i, ok)
			}
		}
	}
	if i, ok := (Table{}).Check([]string{"", "a"}); i != 0 || !ok {
		t.Error("no table", i, ok)
	}
	if i, ok := (Table{Chains: []uint32{0, 0}}).Check([]string{"", "a"}); i != 1 || ok {
		t.Error("no Buckets", i, ok)
	}
	if i, ok := (Table{[]uint32{1}, []uint32{0, 0}}).Check(nil); i != 0 || !ok {
		t.Error("no names", i, ok)
	}
}

// P13.3: a symbol that stands in another name's walk, but not in its own, is missed; chains that go round end.
func TestCheckOwnWalk(t *testing.T) {
	// "a" is of the second Bucket of two, "b" of the first one.
	names := []string{"", "a", "b"}
	for _, c := range []struct {
		what            string
		buckets, chains []uint32
		want            int
		ok              bool
	}{
		{"each in its own", []uint32{2, 1}, []uint32{0, 0, 0}, 0, true},
		{"both in both", []uint32{2, 2}, []uint32{0, 0, 1}, 0, true},
		{"each in the other's", []uint32{1, 2}, []uint32{0, 0, 0}, 1, false},
		{"both in the first one's", []uint32{2, 0}, []uint32{0, 0, 1}, 1, false},
		{"both in the second one's", []uint32{0, 2}, []uint32{0, 0, 1}, 2, false},
		{"round, with both", []uint32{2, 1}, []uint32{0, 2, 1}, 0, true},
		{"round, each by itself", []uint32{2, 1}, []uint32{0, 1, 2}, 0, true},
		{"round, without the last one", []uint32{1, 1}, []uint32{0, 1, 2}, 2, false},
		{"astray", []uint32{2, 9}, []uint32{0, 0, 1}, 1, false},
		{"astray behind the last one", []uint32{2, 1}, []uint32{0, highest, 9}, 0, true},
	} {
		if i, ok := (Table{c.buckets, c.chains}).Check(names); i != c.want || ok != c.ok {
			t.Errorf("%s: %d %v", c.what, i, ok)
		}
	}
	// The same name twice: the first one isn't where the second one is met.
	twice := []string{"", "a", "a"}
	if i, ok := (Table{[]uint32{2}, []uint32{0, 0, 0}}).Check(twice); i != 1 || ok {
		t.Error(i, ok)
	}
	if i, ok := (Table{[]uint32{1}, []uint32{0, 0, 0}}).Check(twice); i != 2 || ok {
		t.Error(i, ok)
	}
}
