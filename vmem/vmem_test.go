package vmem

import (
	"math"
	"slices"
	"strings"
	"testing"

	"turnbuckle/api"
	"turnbuckle/fail"
	"turnbuckle/le"
)

const low = api.Low

var noCounts = []int{math.MinInt, -1, 0, api.MaxPages + 1, 1 << 32, 1 << 56, math.MaxInt}

var noPerms = []int{math.MinInt, -1, 8, 15, math.MaxInt}

// made: a space with that quota.
func made(t *testing.T, quota int) *Space {
	t.Helper()
	s, e := New(quota)
	if e != api.OK {
		t.Fatalf("New(%d): %d", quota, e)
	}
	return s
}

// mapped: a space whose pages from low on may be done with as is told.
func mapped(t *testing.T, perms ...int) *Space {
	t.Helper()
	s := made(t, api.MaxPages)
	for i, perm := range perms {
		wantErrno(t, "Map", s.Map(low+uint64(i)*api.Page, 1, perm), api.OK)
	}
	return s
}

func wantErrno(t *testing.T, what string, got, want api.Errno) {
	t.Helper()
	if got != want {
		t.Errorf("%s: %d, not %d", what, got, want)
	}
}

func wantFault(t *testing.T, what string, got, want fail.Fault) {
	t.Helper()
	if got != want {
		t.Errorf("%s: %v, not %v", what, got, want)
	}
}

// wantNumber: what a load, or a fetch, must tell.
func wantNumber(t *testing.T, what string, got, want uint64, f, fault fail.Fault) {
	t.Helper()
	if got != want {
		t.Errorf("%s: %#x, not %#x", what, got, want)
	}
	wantFault(t, what, f, fault)
}

// wantText: what must be peeked at.
func wantText(t *testing.T, what, got, want string, f, fault fail.Fault) {
	t.Helper()
	if got != want {
		t.Errorf("%s: %q, not %q", what, got, want)
	}
	wantFault(t, what, f, fault)
}

// told: a space's pages, as a list of addresses and of what may be done with them.
func told(s *Space) []uint64 {
	var l []uint64
	for at, perm := range s.Pages() {
		l = append(l, at, uint64(perm))
	}
	return l
}

// unchanged: a function that tells whether a space is still as it is now.
func unchanged(t *testing.T, s *Space) func() {
	t.Helper()
	before := s.Copy()
	return func() {
		t.Helper()
		if !s.Same(before) || !slices.Equal(told(s), told(before)) {
			t.Error("it has changed")
		}
	}
}

// P4.1.
func TestPermNumbers(t *testing.T) {
	if X != 1 || W != 2 || R != 4 {
		t.Error(X, W, R)
	}
}

// P4.1.
func TestNew(t *testing.T) {
	for _, quota := range []int{0, 1, 17, api.MaxPages} {
		s := made(t, quota)
		if n, most := s.Count(); n != 0 || most != quota {
			t.Errorf("Count of New(%d): %d %d", quota, n, most)
		}
	}
	for _, quota := range []int{math.MinInt, -1, api.MaxPages + 1, math.MaxInt} {
		if s, e := New(quota); s != nil || e != api.ErrArg {
			t.Errorf("New(%d): %v %d", quota, s, e)
		}
	}
}

// P4.1.
func TestMap(t *testing.T) {
	s := made(t, 5)
	wantErrno(t, "two", s.Map(low, 2, R|W), api.OK)
	wantErrno(t, "one at 0", s.Map(0, 1, 0), api.OK)
	wantErrno(t, "the last below 2^63", s.Map(1<<63-api.Page, 1, R|W|X), api.OK)
	want := []uint64{0, 0, low, R | W, low + api.Page, R | W, 1<<63 - api.Page, 7}
	if got := told(s); !slices.Equal(got, want) {
		t.Errorf("pages %v, not %v", got, want)
	}
	b, f := s.Peek(low, 2*api.Page)
	wantText(t, "noughts", b, strings.Repeat("\x00", 2*api.Page), f, fail.Fault{})
}

// P4.1: what isn't mapped, by the order in which the errors are named.
func TestMapErrors(t *testing.T) {
	s := made(t, 5)
	s.Map(low, 2, R)
	same := unchanged(t, s)
	for _, n := range noCounts {
		wantErrno(t, "pages", s.Map(1, n, 0), api.ErrArg)
	}
	for _, perm := range noPerms {
		wantErrno(t, "perm", s.Map(1, 1, perm), api.ErrArg)
	}
	for _, at := range []uint64{1, low + 1, low + 255, 1<<63 - 1, math.MaxUint64} {
		wantErrno(t, "alignment", s.Map(at, 1, 0), api.ErrAlign)
	}
	wantErrno(t, "2^63", s.Map(1<<63, 1, 0), api.ErrRange)
	wantErrno(t, "over 2^63", s.Map(1<<63-api.Page, 2, 0), api.ErrRange)
	wantErrno(t, "up to 2^64", s.Map(-api.Page&math.MaxUint64, 1, 0), api.ErrRange)
	wantErrno(t, "beyond 2^64", s.Map(-api.Page&math.MaxUint64, 2, 0), api.ErrRange)
	wantErrno(t, "the first of them", s.Map(low, 1, 0), api.ErrMapped)
	wantErrno(t, "the last of them", s.Map(low-2*api.Page, 3, 0), api.ErrMapped)
	wantErrno(t, "mapped, and too many", s.Map(low-api.Page, api.MaxPages, 0), api.ErrMapped)
	wantErrno(t, "one too many", s.Map(2*low, 4, 0), api.ErrSpace)
	wantErrno(t, "all that may be asked for", s.Map(2*low, api.MaxPages, 0), api.ErrSpace)
	same()
	wantErrno(t, "just enough", s.Map(2*low, 3, 0), api.OK)
	wantErrno(t, "full", s.Map(3*low, 1, 0), api.ErrSpace)
	wantErrno(t, "room again", s.Unmap(2*low, 1), api.OK)
	wantErrno(t, "in that room", s.Map(3*low, 1, 0), api.OK)
}

// P4.1.
func TestMapAll(t *testing.T) {
	s := made(t, api.MaxPages)
	wantErrno(t, "all", s.Map(low, api.MaxPages, R), api.OK)
	wantErrno(t, "one more", s.Map(0, 1, R), api.ErrSpace)
	wantErrno(t, "none", s.Unmap(low, api.MaxPages), api.OK)
	if n, most := s.Count(); n != 0 || most != api.MaxPages {
		t.Error(n, most)
	}
	wantErrno(t, "one of none", made(t, 0).Map(low, 1, R), api.ErrSpace)
}

// P4.1.
func TestUnmap(t *testing.T) {
	s := mapped(t, R, R|W, X)
	s.Poke(low, strings.Repeat("a", 3*api.Page))
	same := unchanged(t, s)
	for _, n := range noCounts {
		wantErrno(t, "pages", s.Unmap(1, n), api.ErrArg)
	}
	wantErrno(t, "alignment", s.Unmap(low+8, 1), api.ErrAlign)
	wantErrno(t, "2^63", s.Unmap(1<<63, 1), api.ErrRange)
	wantErrno(t, "over 2^63", s.Unmap(1<<63-api.Page, 2), api.ErrRange)
	wantErrno(t, "below 2^63", s.Unmap(1<<63-api.Page, 1), api.ErrHole)
	wantErrno(t, "the first", s.Unmap(low-api.Page, 2), api.ErrHole)
	wantErrno(t, "the last", s.Unmap(low, 4), api.ErrHole)
	same()
	wantErrno(t, "the second", s.Unmap(low+api.Page, 1), api.OK)
	wantErrno(t, "all three", s.Unmap(low, 3), api.ErrHole)
	if got, want := told(s), []uint64{low, R, low + 2*api.Page, X}; !slices.Equal(got, want) {
		t.Errorf("pages %v, not %v", got, want)
	}
	wantErrno(t, "again", s.Map(low+api.Page, 1, R), api.OK)
	n, f := s.Load(low+api.Page, 8)
	wantNumber(t, "noughts again", n, 0, f, fail.Fault{})
}

// P4.1.
func TestProtect(t *testing.T) {
	s := mapped(t, R, R|W, X)
	s.Poke(low, strings.Repeat("a", 3*api.Page))
	same := unchanged(t, s)
	for _, n := range noCounts {
		wantErrno(t, "pages", s.Protect(1, n, 0), api.ErrArg)
	}
	for _, perm := range noPerms {
		wantErrno(t, "perm", s.Protect(1, 1, perm), api.ErrArg)
	}
	wantErrno(t, "alignment", s.Protect(low+8, 1, 0), api.ErrAlign)
	wantErrno(t, "2^63", s.Protect(1<<63, 1, 0), api.ErrRange)
	wantErrno(t, "over 2^63", s.Protect(1<<63-api.Page, 2, 0), api.ErrRange)
	wantErrno(t, "the first", s.Protect(low-api.Page, 2, 0), api.ErrHole)
	wantErrno(t, "the last", s.Protect(low, 4, 0), api.ErrHole)
	same()
	wantErrno(t, "two", s.Protect(low, 2, W|X), api.OK)
	if got, want := told(s), []uint64{low, W | X, low + api.Page, W | X, low + 2*api.Page, X}; !slices.Equal(got, want) {
		t.Errorf("pages %v, not %v", got, want)
	}
	b, f := s.Peek(low, 3*api.Page)
	wantText(t, "the bytes", b, strings.Repeat("a", 3*api.Page), f, fail.Fault{})
}

// P4.1.
func TestPerm(t *testing.T) {
	s := mapped(t, R, 0, X|W)
	for _, c := range []struct {
		at   uint64
		perm int
		ok   bool
	}{
		{low, R, true},
		{low + 255, R, true},
		{low + 256, 0, true},
		{low + 512, X | W, true},
		{low + 767, X | W, true},
		{low - 1, 0, false},
		{low + 768, 0, false},
		{0, 0, false},
		{math.MaxUint64, 0, false},
	} {
		if perm, ok := s.Perm(c.at); perm != c.perm || ok != c.ok {
			t.Errorf("Perm(%d): %d %v", c.at, perm, ok)
		}
	}
}

// P4.1.
func TestNilSpace(t *testing.T) {
	var s *Space
	wantErrno(t, "Map", s.Map(low, 1, R), api.ErrArg)
	wantErrno(t, "Unmap", s.Unmap(low, 1), api.ErrArg)
	wantErrno(t, "Protect", s.Protect(low, 1, R), api.ErrArg)
	wantFault(t, "Store", s.Store(low, 1, 1), fail.Of(api.ErrArg))
	wantFault(t, "Poke", s.Poke(low, ""), fail.Of(api.ErrArg))
	n, f := s.Load(low, 1)
	wantNumber(t, "Load", n, 0, f, fail.Of(api.ErrArg))
	for _, at := range []uint64{low, low + 1} {
		w, f := s.Fetch(at)
		wantNumber(t, "Fetch", uint64(w), 0, f, fail.Of(api.ErrArg))
	}
	b, f := s.Peek(low, 0)
	wantText(t, "Peek", b, "", f, fail.Of(api.ErrArg))
	for _, most := range []int{-1, 0, 5} {
		b, f = s.Text(low, most)
		wantText(t, "Text", b, "", f, fail.Of(api.ErrArg))
	}
	if perm, ok := s.Perm(low); perm != 0 || ok {
		t.Error("Perm", perm, ok)
	}
	if at, ok := s.Place(1); at != 0 || ok {
		t.Error("Place", at, ok)
	}
	if n, most := s.Count(); n != 0 || most != 0 {
		t.Error("Count", n, most)
	}
	if s.Same(nil) || s.Same(made(t, 0)) || made(t, 0).Same(s) {
		t.Error("Same")
	}
	if s.Copy() != nil || told(s) != nil {
		t.Error("Copy, Pages")
	}
}

// P4.1: a space that nobody made has no quota.
func TestZeroSpace(t *testing.T) {
	var s Space
	wantErrno(t, "Map", s.Map(low, 1, R), api.ErrSpace)
	wantErrno(t, "Unmap", s.Unmap(low, 1), api.ErrHole)
	wantFault(t, "Poke", s.Poke(low, "a"), fail.At(api.ErrHole, low))
}

var noSizes = []int{math.MinInt, -1, 0, 3, 5, 6, 7, 9, 16, math.MaxInt}

// P4.2.
func TestLoadAndStore(t *testing.T) {
	const n = 0x8877665544332211
	for _, size := range []int{1, 2, 4, 8} {
		for _, at := range []uint64{low, low + 3, low + 251, low + 255, low + 256} {
			s := mapped(t, R|W, R|W)
			s.Poke(low, strings.Repeat("\xff", 2*api.Page))
			wantFault(t, "Store", s.Store(at, n, size), fail.Fault{})
			all, f := s.Peek(low, 2*api.Page)
			want, _ := le.With(strings.Repeat("\xff", 2*api.Page), at-low, n, size)
			wantText(t, "stored", all, want, f, fail.Fault{})
			got, f := s.Load(at, size)
			wantNumber(t, "Load", got, le.Get(le.Put(n, size)), f, fail.Fault{})
		}
	}
}

// P4.2.
func TestLoadAndStoreSizes(t *testing.T) {
	s := mapped(t, R|W)
	same := unchanged(t, s)
	for _, size := range noSizes {
		for _, at := range []uint64{low, 0, math.MaxUint64} {
			n, f := s.Load(at, size)
			wantNumber(t, "Load", n, 0, f, fail.Of(api.ErrArg))
			wantFault(t, "Store", s.Store(at, 1, size), fail.Of(api.ErrArg))
		}
	}
	same()
}

// P4.2: at which address a load, and a store, faults.
func TestLoadAndStoreFaults(t *testing.T) {
	for _, c := range []struct {
		perms       []int
		at          uint64
		size        int
		load, store fail.Fault
	}{
		{[]int{R, W}, low, 8, fail.Fault{}, fail.At(api.ErrWrite, low)},
		{[]int{R, W}, low + 255, 2, fail.At(api.ErrRead, low+256), fail.At(api.ErrWrite, low+255)},
		{[]int{W, R}, low + 255, 2, fail.At(api.ErrRead, low+255), fail.At(api.ErrWrite, low+256)},
		{[]int{W, R}, low + 250, 8, fail.At(api.ErrRead, low+250), fail.At(api.ErrWrite, low+256)},
		{[]int{R | W, R | W}, low + 511, 2, fail.At(api.ErrHole, low+512), fail.At(api.ErrHole, low+512)},
		{[]int{R | W, R | W}, low + 505, 8, fail.At(api.ErrHole, low+512), fail.At(api.ErrHole, low+512)},
		{[]int{R | W, R | W}, low + 504, 8, fail.Fault{}, fail.Fault{}},
		{[]int{0}, low + 255, 2, fail.At(api.ErrRead, low+255), fail.At(api.ErrWrite, low+255)},
		{[]int{X}, low, 1, fail.At(api.ErrRead, low), fail.At(api.ErrWrite, low)},
		{[]int{X | R}, low, 1, fail.Fault{}, fail.At(api.ErrWrite, low)},
		{[]int{X | W}, low, 1, fail.At(api.ErrRead, low), fail.Fault{}},
		{[]int{R | W}, low - 1, 2, fail.At(api.ErrHole, low-1), fail.At(api.ErrHole, low-1)},
		{nil, math.MaxUint64, 1, fail.At(api.ErrHole, math.MaxUint64), fail.At(api.ErrHole, math.MaxUint64)},
		{nil, math.MaxUint64, 8, fail.At(api.ErrHole, math.MaxUint64), fail.At(api.ErrHole, math.MaxUint64)},
		{nil, 0, 8, fail.Of(api.ErrHole), fail.Of(api.ErrHole)},
	} {
		s := mapped(t, c.perms...)
		same := unchanged(t, s)
		n, f := s.Load(c.at, c.size)
		wantNumber(t, "Load", n, 0, f, c.load)
		wantFault(t, "Store", s.Store(c.at, math.MaxUint64, c.size), c.store)
		if !c.store.OK() {
			same()
		}
	}
}

// P4.2.
func TestFetch(t *testing.T) {
	s := mapped(t, X, R|W, R|X)
	s.Poke(low, "\x11\x22\x33\x84abcd")
	s.Poke(low+508, "efgh\xff\xff\xff\xff")
	for _, c := range []struct {
		at   uint64
		want uint32
		f    fail.Fault
	}{
		{low, 0x84332211, fail.Fault{}},
		{low + 4, 0x64636261, fail.Fault{}},
		{low + 252, 0, fail.Fault{}},
		{low + 256, 0, fail.At(api.ErrExec, low+256)},
		{low + 508, 0, fail.At(api.ErrExec, low+508)},
		{low + 512, 0xffffffff, fail.Fault{}},
		{low + 768, 0, fail.At(api.ErrHole, low+768)},
		{low - 4, 0, fail.At(api.ErrHole, low-4)},
		{low + 1, 0, fail.At(api.ErrAlign, low+1)},
		{low + 2, 0, fail.At(api.ErrAlign, low+2)},
		{low + 255, 0, fail.At(api.ErrAlign, low+255)},
		{low + 258, 0, fail.At(api.ErrAlign, low+258)},
		{low + 771, 0, fail.At(api.ErrAlign, low+771)},
		{math.MaxUint64, 0, fail.At(api.ErrAlign, math.MaxUint64)},
		{math.MaxUint64 - 3, 0, fail.At(api.ErrHole, math.MaxUint64-3)},
		{0, 0, fail.Of(api.ErrHole)},
	} {
		n, f := s.Fetch(c.at)
		wantNumber(t, "Fetch", uint64(n), uint64(c.want), f, c.f)
	}
}

// P4.3.
func TestPeekAndPoke(t *testing.T) {
	s := mapped(t, 0, X, R)
	wantFault(t, "Poke", s.Poke(low+254, "ab"+strings.Repeat("c", 256)+"de"), fail.Fault{})
	for _, c := range []struct {
		at   uint64
		n    int
		want string
		f    fail.Fault
	}{
		{low + 253, 4, "\x00abc", fail.Fault{}},
		{low + 511, 4, "cde\x00", fail.Fault{}},
		{low + 252, 262, "\x00\x00ab" + strings.Repeat("c", 256) + "de", fail.Fault{}},
		{low + 767, 1, "\x00", fail.Fault{}},
		{low + 767, 2, "", fail.At(api.ErrHole, low+768)},
		{low, 65536, "", fail.At(api.ErrHole, low+768)},
		{low - 2, 4, "", fail.At(api.ErrHole, low-2)},
		{low, 0, "", fail.Fault{}},
		{5, 0, "", fail.Fault{}},
		{math.MaxUint64, 0, "", fail.Fault{}},
		{math.MaxUint64, 1, "", fail.At(api.ErrHole, math.MaxUint64)},
		{low, -1, "", fail.Of(api.ErrArg)},
		{low, math.MinInt, "", fail.Of(api.ErrArg)},
		{low, 65537, "", fail.Of(api.ErrArg)},
		{0, math.MaxInt, "", fail.Of(api.ErrArg)},
	} {
		b, f := s.Peek(c.at, c.n)
		wantText(t, "Peek", b, c.want, f, c.f)
	}
}

// P4.3.
func TestPokeFaults(t *testing.T) {
	s := mapped(t, R|W, 0)
	same := unchanged(t, s)
	wantFault(t, "the end", s.Poke(low+510, "abc"), fail.At(api.ErrHole, low+512))
	wantFault(t, "ahead", s.Poke(low-1, "ab"), fail.At(api.ErrHole, low-1))
	wantFault(t, "the last of all", s.Poke(math.MaxUint64, "ab"), fail.At(api.ErrHole, math.MaxUint64))
	wantFault(t, "too much", s.Poke(low, strings.Repeat("a", 65537)), fail.Of(api.ErrArg))
	wantFault(t, "nothing", s.Poke(3, ""), fail.Fault{})
	same()
}

// P4.3: a hole between pages.
func TestPeekAndPokeHole(t *testing.T) {
	s := mapped(t, R|W, R|W, R|W)
	s.Unmap(low+api.Page, 1)
	same := unchanged(t, s)
	b, f := s.Peek(low+1, 3*api.Page-1)
	wantText(t, "Peek", b, "", f, fail.At(api.ErrHole, low+api.Page))
	wantFault(t, "Poke", s.Poke(low+1, strings.Repeat("a", 600)), fail.At(api.ErrHole, low+api.Page))
	same()
}

// P4.3.
func TestPeekAndPokeMost(t *testing.T) {
	s := made(t, api.MaxPages)
	s.Map(low, 257, 0)
	all := strings.Repeat("abcde", 65536/5) + "f"
	wantFault(t, "Poke", s.Poke(low+7, all), fail.Fault{})
	b, f := s.Peek(low+7, 65536)
	wantText(t, "Peek", b, all, f, fail.Fault{})
}

// P4.3.
func TestText(t *testing.T) {
	s := mapped(t, R, R, W)
	s.Poke(low, "puts\x00x\x00\x00")
	s.Poke(low+250, "over two\x00pages")
	s.Poke(low+508, "endsabc\x00")
	for _, c := range []struct {
		at   uint64
		most int
		want string
		f    fail.Fault
	}{
		{low, 100, "puts", fail.Fault{}},
		{low, 4, "puts", fail.Fault{}},
		{low, 3, "", fail.At(api.ErrLimit, low+3)},
		{low, 0, "", fail.At(api.ErrLimit, low)},
		{low + 2, 2, "ts", fail.Fault{}},
		{low + 4, 0, "", fail.Fault{}},
		{low + 7, 0, "", fail.Fault{}},
		{low + 250, math.MaxInt, "over two", fail.Fault{}},
		{low + 250, 7, "", fail.At(api.ErrLimit, low+257)},
		{low + 250, 6, "", fail.At(api.ErrLimit, low+256)},
		{low + 508, 100, "", fail.At(api.ErrRead, low+512)},
		{low + 508, 4, "", fail.At(api.ErrRead, low+512)},
		{low + 508, 3, "", fail.At(api.ErrLimit, low+511)},
		{low - 1, 5, "", fail.At(api.ErrHole, low-1)},
		{low + 768, 0, "", fail.At(api.ErrHole, low+768)},
		{math.MaxUint64, 5, "", fail.At(api.ErrHole, math.MaxUint64)},
		{low, -1, "", fail.At(api.ErrLimit, low-1)},
		{low + 4, -1, "", fail.At(api.ErrLimit, low+3)},
	} {
		b, f := s.Text(c.at, c.most)
		wantText(t, "Text", b, c.want, f, c.f)
	}
}

// P4.3: a text up to the end of what is mapped.
func TestTextWithoutEnd(t *testing.T) {
	s := mapped(t, R)
	s.Poke(low, strings.Repeat("a", api.Page))
	b, f := s.Text(low, math.MaxInt)
	wantText(t, "Text", b, "", f, fail.At(api.ErrHole, low+api.Page))
	b, f = s.Text(low, math.MinInt)
	wantText(t, "Text", b, "", f, fail.At(api.ErrLimit, low+1<<63))
}

// wantPlace: where so many pages have their place.
func wantPlace(t *testing.T, s *Space, pages int, want uint64, found bool) {
	t.Helper()
	if at, ok := s.Place(pages); at != want || ok != found {
		t.Errorf("Place(%d): %d %v", pages, at, ok)
	}
}

// P4.4.
func TestPlace(t *testing.T) {
	s := made(t, 8)
	wantPlace(t, s, 1, low, true)
	wantPlace(t, s, api.MaxPages, low, true)
	s.Map(0, 1, 0)
	s.Map(low-api.Page, 1, 0)
	s.Map(low+3*api.Page, 2, R)
	s.Map(low+7*api.Page, 1, X)
	wantPlace(t, s, 3, low, true)
	wantPlace(t, s, 4, low+8*api.Page, true)
	s.Map(low, 1, W)
	wantPlace(t, s, 1, low+api.Page, true)
	wantPlace(t, s, 2, low+api.Page, true)
	wantPlace(t, s, 3, low+8*api.Page, true)
	s.Map(low+api.Page, 2, W)
	wantPlace(t, s, 1, low+5*api.Page, true)
	wantPlace(t, s, 2, low+5*api.Page, true)
	for _, n := range noCounts {
		wantPlace(t, s, n, 0, false)
	}
	if n, most := s.Count(); n != 8 || most != 8 {
		t.Error(n, most)
	}
}

// P4.4: a space so dense that the end comes first.
func TestPlaceUpToHigh(t *testing.T) {
	const step = (api.High - api.Low) / api.MaxPages
	s := made(t, api.MaxPages)
	for i := range uint64(api.MaxPages) {
		wantErrno(t, "Map", s.Map((low+i*step)&^(api.Page-1), 1, R), api.OK)
	}
	wantPlace(t, s, 1, low+api.Page, true)
	wantPlace(t, s, api.MaxPages, 0, false)
}

// P4.4.
func TestPages(t *testing.T) {
	s := made(t, 10)
	s.Map(low+512, 1, R)
	s.Map(1<<62, 1, X)
	s.Map(256, 1, 0)
	s.Map(low, 1, W)
	all := s.Pages()
	for range 2 {
		var met []uint64
		for at, perm := range all {
			met = append(met, at, uint64(perm))
			if at == low+512 {
				break
			}
		}
		if want := []uint64{256, 0, low, W, low + 512, R}; !slices.Equal(met, want) {
			t.Errorf("pages %v, not %v", met, want)
		}
	}
	if want := []uint64{256, 0, low, W, low + 512, R, 1 << 62, X}; !slices.Equal(told(s), want) {
		t.Errorf("pages %v, not %v", told(s), want)
	}
	if n, most := s.Count(); n != 4 || most != 10 {
		t.Error(n, most)
	}
}

// P4.4.
func TestSame(t *testing.T) {
	a, b := mapped(t, R, W), mapped(t, R, W)
	same := func(want bool) {
		t.Helper()
		if a.Same(b) != want || b.Same(a) != want || !a.Same(a) {
			t.Errorf("not %v", want)
		}
	}
	same(true)
	a.Poke(low+511, "x")
	same(false)
	b.Poke(low+511, "x")
	same(true)
	a.Protect(low, 1, R|X)
	same(false)
	b.Protect(low, 1, R|X)
	same(true)
	a.Map(2*low, 1, R)
	same(false)
	b.Map(3*low, 1, R)
	same(false)
	b.Unmap(3*low, 1)
	b.Map(2*low, 1, R)
	same(true)
	if !made(t, 0).Same(made(t, 5)) {
		t.Error("the quota isn't a page")
	}
}

// P4.4.
func TestCopy(t *testing.T) {
	s := made(t, 4)
	s.Map(low, 2, R|W)
	s.Store(low+252, math.MaxUint64, 8)
	c := s.Copy()
	if n, most := c.Count(); n != 2 || most != 4 || !c.Same(s) {
		t.Error(n, most)
	}
	same := unchanged(t, s)
	c.Store(low, 1, 1)
	same()
	c.Protect(low, 1, X)
	same()
	c.Map(2*low, 2, 0)
	same()
	c.Unmap(low, 2)
	same()
	wantErrno(t, "the copy's quota", c.Map(3*low, 3, 0), api.ErrSpace)
	e := made(t, 0).Copy()
	if n, most := e.Count(); n != 0 || most != 0 {
		t.Error(n, most)
	}
}
