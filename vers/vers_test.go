package vers

import (
	"encoding/binary"
	"math"
	"math/big"
	"math/rand"
	"slices"
	"strings"
	"testing"

	"turnbuckle/api"
	"turnbuckle/fail"
)

// names of the tests, and where some of them begin. What begins at unended isn't ended.
const (
	longest = "mnopqrstuvwxyzABCDEFGHIJKLMNOPQR"
	names   = "\x00V1\x00V2\x00libc\x00x" + longest + "\x00open"

	v1        = 1
	v2        = 4
	libc      = 7
	overlong  = 12
	just      = 13
	last      = 45
	unended   = 46
	namesEnd  = 50
	farBeyond = math.MaxUint32
)

// wrongNames: places at which there is no name.
var wrongNames = []uint32{overlong, unended, namesEnd - 1, namesEnd, namesEnd + 1, 1 << 8, 1 << 16, 1<<24 + 1, 1 << 31, farBeyond}

var order = binary.LittleEndian

// defEntry: an entry of what a file defines; the bytes that don't matter aren't 0.
func defEntry(form, number, count uint16, first, next uint32) string {
	b := order.AppendUint16(order.AppendUint16(nil, form), 0xa5a5)
	b = order.AppendUint16(order.AppendUint16(b, number), count)
	b = order.AppendUint32(order.AppendUint32(b, 0xa5a5a5a5), first)
	return string(order.AppendUint32(b, next))
}

// nameEntry: a name of such an entry.
func nameEntry(place uint32) string {
	return string(order.AppendUint32(order.AppendUint32(nil, place), 0xa5a5a5a5))
}

// oneDef: an entry with its name just behind it, and the next entry behind that.
func oneDef(number uint16, place uint32) string {
	return defEntry(1, number, 1, 20, 28) + nameEntry(place)
}

// fileEntry: an entry of what a file needs.
func fileEntry(form, count uint16, name, first, next uint32) string {
	b := order.AppendUint16(order.AppendUint16(nil, form), count)
	return string(order.AppendUint32(order.AppendUint32(order.AppendUint32(b, name), first), next))
}

// version of such an entry; the bytes that don't matter aren't 0.
func version(flags, number uint16, name, next uint32) string {
	b := order.AppendUint16(order.AppendUint16([]byte("\xa5\xa5\xa5\xa5"), flags), number)
	return string(order.AppendUint32(order.AppendUint32(b, name), next))
}

// oneFile: an entry with its versions just behind it, and the next entry behind these.
func oneFile(name uint32, versions ...string) string {
	n := len(versions)
	return fileEntry(1, uint16(n), name, 16, uint32(16+16*n)) + strings.Join(versions, "")
}

// times: so many elements that are the same.
func times[T any](n int, x T) []T { return slices.Repeat([]T{x}, n) }

// wantDefs: bytes are read as these.
func wantDefs(t *testing.T, what, b string, n int, want ...Def) {
	t.Helper()
	if got, f := Defs(b, names, n); f != (fail.Fault{}) || !slices.Equal(got, want) {
		t.Errorf("%s: %+v %v, not %+v", what, got, f, want)
	}
}

// noDefs: bytes aren't read, and nothing but the fault is told.
func noDefs(t *testing.T, what, b string, n int, e api.Errno, at uint64) {
	t.Helper()
	if got, f := Defs(b, names, n); f != (fail.Fault{Code: e, At: at}) || len(got) != 0 {
		t.Errorf("%s: %+v %q at %d, not %q at %d", what, got, fail.Word(f.Code), f.At, fail.Word(e), at)
	}
}

// wantNeeds: bytes are read as these.
func wantNeeds(t *testing.T, what, b string, n int, want ...Need) {
	t.Helper()
	if got, f := Needs(b, names, n); f != (fail.Fault{}) || !slices.Equal(got, want) {
		t.Errorf("%s: %+v %v, not %+v", what, got, f, want)
	}
}

// noNeeds: bytes aren't read, and nothing but the fault is told.
func noNeeds(t *testing.T, what, b string, n int, e api.Errno, at uint64) {
	t.Helper()
	if got, f := Needs(b, names, n); f != (fail.Fault{Code: e, At: at}) || len(got) != 0 {
		t.Errorf("%s: %+v %q at %d, not %q at %d", what, got, fail.Word(f.Code), f.At, fail.Word(e), at)
	}
}

// The tests' own places are right.
func TestNamesOfTests(t *testing.T) {
	for at, want := range map[int]string{v1: "V1", v2: "V2", libc: "libc", overlong: "x" + longest, just: longest, last: ""} {
		if got, _, ok := strings.Cut(names[at:], "\x00"); got != want || !ok {
			t.Error(at, got, ok)
		}
	}
	if len(longest) != api.MaxName || names[unended:] != "open" || len(names) != namesEnd {
		t.Error(len(longest), names[unended:], len(names))
	}
}

// P12.1: the chapter's example, and others that are known.
func TestHash(t *testing.T) {
	for s, want := range map[string]uint32{
		"":            0,
		"a":           97,
		"ab":          1650,
		"\xff":        255,
		"\x00\x00":    0,
		"exit":        0x0006cf04,
		"printf":      0x077905a6,
		"GLIBC_2.2.5": 0x09691a75,
		"GLIBC_2.34":  0x069691b4,
	} {
		if got := Hash(s); got != want {
			t.Errorf("%q: %#x, not %#x", s, got, want)
		}
	}
}

// hashRule: P12.1 written anew, with numbers of any size.
func hashRule(s string) uint32 {
	h := new(big.Int)
	low, all := big.NewInt(1<<28), big.NewInt(1<<32)
	for k := range len(s) {
		h.Mul(h, big.NewInt(16))
		h.Add(h, big.NewInt(int64(s[k])))
		h.Mod(h, all)
		g := new(big.Int).Div(h, low)
		g.Mul(g, low)
		h.Xor(h, g.Div(g, big.NewInt(1<<24)))
		h.Mod(h, low)
	}
	return uint32(h.Uint64())
}

// P12.1: texts of all lengths up to 39, by chance, always the same ones.
func TestHashRule(t *testing.T) {
	r := rand.New(rand.NewSource(12))
	for k := range 20000 {
		b := make([]byte, k%40)
		for i := range b {
			b[i] = byte(r.Intn(256))
			if k%3 == 0 {
				b[i] |= 0xf0
			}
		}
		if got, want := Hash(string(b)), hashRule(string(b)); got != want {
			t.Fatalf("%x: %#x, not %#x", b, got, want)
		}
	}
}

// P12.2: ordinary ones, in order.
func TestDefs(t *testing.T) {
	b := oneDef(2, v1) + oneDef(3, v2) + oneDef(2, libc)
	wantDefs(t, "none", b, 0)
	wantDefs(t, "one", b, 1, Def{2, "V1"})
	wantDefs(t, "two", b, 2, Def{2, "V1"}, Def{3, "V2"})
	wantDefs(t, "three", b, 3, Def{2, "V1"}, Def{3, "V2"}, Def{2, "libc"})
	noDefs(t, "four", b, 4, api.ErrShort, 84)
	b = defEntry(1, 5, 2, 56, 20) + defEntry(1, 6, 1, 20, 77) + nameEntry(v2) + "between " + nameEntry(v1) + nameEntry(unended)
	wantDefs(t, "names behind both, of which the first one of each counts", b, 2, Def{5, "V1"}, Def{6, "V2"})
	b = defEntry(1, 9, 1, 23, 31) + "..." + nameEntry(libc) + oneDef(8, v2+1)
	wantDefs(t, "at odd places", b, 2, Def{9, "libc"}, Def{8, "2"})
}

// P12.2, P12.3: each n that may be, and others, whatever else is wrong.
func TestHowMany(t *testing.T) {
	defs := strings.Repeat(oneDef(2, v1), 70)
	files := strings.Repeat(oneFile(libc, version(0, 2, v1, 0)), 70)
	wrong := strings.Repeat("\xff", 70)
	for _, n := range []int{-1, -2, -64, 65, 66, 128, 256, 1 << 32, 1<<32 + 1, math.MinInt, math.MaxInt} {
		for _, b := range []string{"", defs, files, wrong} {
			noDefs(t, "n", b, n, api.ErrLimit, 0)
			noNeeds(t, "n", b, n, api.ErrLimit, 0)
		}
	}
	for n := range 65 {
		wantDefs(t, "n", defs, n, times(n, Def{2, "V1"})...)
		wantNeeds(t, "n", files, n, times(n, Need{2, "libc", "V1", false})...)
		if n > 0 {
			noDefs(t, "one less than n", defs[:28*(n-1)], n, api.ErrShort, uint64(28*(n-1)))
			noNeeds(t, "one less than n", files[:32*(n-1)], n, api.ErrShort, uint64(32*(n-1)))
		}
	}
	for _, b := range []string{"", defs, files, wrong} {
		wantDefs(t, "n 0", b, 0)
		wantNeeds(t, "n 0", b, 0)
	}
}

// P12.2: each length of bytes.
func TestDefsShort(t *testing.T) {
	b := oneDef(2, v1) + oneDef(3, v2)
	for n := range len(b) {
		if n < 28 {
			noDefs(t, "cut", b[:n], 1, api.ErrShort, 0)
			noDefs(t, "cut", b[:n], 2, api.ErrShort, 0)
		} else {
			wantDefs(t, "cut", b[:n], 1, Def{2, "V1"})
			noDefs(t, "cut", b[:n], 2, api.ErrShort, 28)
		}
	}
	// The name of the first entry stands behind the second one's, and is cut first.
	b = defEntry(1, 2, 1, 48, 20) + defEntry(1, 3, 1, 20, 0) + nameEntry(v1) + nameEntry(v2)
	wantDefs(t, "just there", b, 2, Def{2, "V2"}, Def{3, "V1"})
	noDefs(t, "just not there", b[:55], 2, api.ErrShort, 0)
	// A second entry that is its own name: its end is the bytes' end.
	b = oneDef(2, v1) + defEntry(1, 3, 1, 0, 0)
	noDefs(t, "just not there", b[:47], 2, api.ErrShort, 28)
	noDefs(t, "just there, but its name is wrong", b, 2, api.ErrName, 28)
}

// P12.2, P12.3: each first two bytes that are none, and each number of names or versions.
func TestForm(t *testing.T) {
	for _, form := range []uint16{0, 2, 3, 0x0100, 0x0101, 0x8001, 0xffff} {
		noDefs(t, "form", defEntry(form, 2, 1, 20, 0)+nameEntry(v1), 1, api.ErrForm, 0)
		noDefs(t, "form", oneDef(2, v1)+defEntry(form, 2, 1, 20, 0)+nameEntry(v1), 2, api.ErrForm, 28)
		noNeeds(t, "form", fileEntry(form, 1, libc, 16, 0)+version(0, 2, v1, 0), 1, api.ErrForm, 0)
		noNeeds(t, "form", oneFile(libc, version(0, 2, v1, 0))+fileEntry(form, 1, libc, 16, 0)+version(0, 2, v1, 0), 2, api.ErrForm, 32)
	}
	for _, count := range []uint16{1, 2, 255, 256, 0x8000, 65535} {
		wantDefs(t, "names", defEntry(1, 2, count, 20, 0)+nameEntry(v1), 1, Def{2, "V1"})
	}
	noDefs(t, "no name", defEntry(1, 2, 0, 20, 0)+nameEntry(v1), 1, api.ErrForm, 0)
	noNeeds(t, "no version", fileEntry(1, 0, libc, 16, 0)+version(0, 2, v1, 0), 1, api.ErrForm, 0)
	noNeeds(t, "no version of the second", oneFile(libc, version(0, 2, v1, 0))+fileEntry(1, 0, libc, 0, 0), 2, api.ErrForm, 32)
}

// P12.2, P12.3: how long names may be, and where they may end.
func TestNames(t *testing.T) {
	right := oneDef(2, v1)
	file := oneFile(libc, version(0, 2, v1, 0))
	for place, name := range map[uint32]string{0: "", v1: "V1", v1 + 1: "1", just: longest, just + 1: longest[1:], last: ""} {
		wantDefs(t, "name", right+oneDef(3, place), 2, Def{2, "V1"}, Def{3, name})
		wantNeeds(t, "file", file+oneFile(place, version(0, 3, v2, 0)), 2, Need{2, "libc", "V1", false}, Need{3, name, "V2", false})
		wantNeeds(t, "version", oneFile(libc, version(0, 2, v1, 16), version(0, 3, place, 0)), 1, Need{2, "libc", "V1", false}, Need{3, "libc", name, false})
	}
	for _, place := range wrongNames {
		noDefs(t, "name", oneDef(2, place), 1, api.ErrName, 0)
		noDefs(t, "second name", right+oneDef(3, place), 2, api.ErrName, 28)
		noNeeds(t, "file", oneFile(place, version(0, 2, v1, 0)), 1, api.ErrName, 0)
		noNeeds(t, "second file", file+oneFile(place, version(0, 3, v2, 0)), 2, api.ErrName, 32)
		noNeeds(t, "version", oneFile(libc, version(0, 2, place, 0)), 1, api.ErrName, 16)
		noNeeds(t, "second version", oneFile(libc, version(0, 2, v1, 16), version(0, 3, place, 0)), 1, api.ErrName, 32)
	}
	if got, f := Defs(right, "", 1); f != fail.Of(api.ErrName) || len(got) != 0 {
		t.Error(got, f)
	}
	if got, f := Needs(file, "", 1); f != fail.Of(api.ErrName) || len(got) != 0 {
		t.Error(got, f)
	}
}

// P12.2, P12.3: of each number the lowest 15 bits.
func TestLowestBits(t *testing.T) {
	for _, n := range []uint16{0, 1, 2, 255, 256, 0x4000, 0x7fff, 0x8000, 0x8001, 0x8002, 0xffff} {
		wantDefs(t, "number", oneDef(n, v1), 1, Def{int(n % 0x8000), "V1"})
		wantNeeds(t, "number", oneFile(libc, version(0, n, v1, 0)), 1, Need{int(n % 0x8000), "libc", "V1", false})
	}
}

// P12.3: of the flags one bit matters.
func TestWeak(t *testing.T) {
	for bit := range 16 {
		flag := uint16(1) << bit
		wantNeeds(t, "one flag", oneFile(libc, version(flag, 2, v1, 0)), 1, Need{2, "libc", "V1", flag == 2})
		wantNeeds(t, "all but one", oneFile(libc, version(^flag, 2, v1, 0)), 1, Need{2, "libc", "V1", flag != 2})
	}
}

// P12.2: how far names and entries are, from 0 on and up to beyond 2^32.
func TestDefsFar(t *testing.T) {
	// What the entry begins with is also the place of a name that is 0 away.
	self := "\x01\x00\x00\x00" + defEntry(1, 2, 1, 0, 0)[4:]
	wantDefs(t, "a name 0 away", self, 1, Def{2, "V1"})
	wantDefs(t, "a name 0 away, three times", self, 3, times(3, Def{2, "V1"})...)
	again := defEntry(1, 2, 1, 20, 0) + nameEntry(v2)
	wantDefs(t, "entries 0 away", again, 64, times(64, Def{2, "V2"})...)
	// What is one byte behind the beginning of an entry of the right form isn't of it.
	noDefs(t, "an entry 1 away", defEntry(1, 2, 1, 20, 1)+nameEntry(v1)+strings.Repeat("\x00", 1<<25), 2, api.ErrForm, 1)
	noDefs(t, "an entry 1 away, and its name isn't there", defEntry(1, 2, 1, 20, 1)+nameEntry(v1), 2, api.ErrShort, 1)
	noDefs(t, "an entry 1 away, of which the last byte isn't there", self[:16]+"\x01\x00\x00\x00", 2, api.ErrShort, 1)
	for _, far := range []uint32{21, 22, 28, 29, 1 << 16, 1 << 31, farBeyond - 27, farBeyond - 20, farBeyond - 7, farBeyond} {
		noDefs(t, "a name too far", defEntry(1, 2, 1, far, 0)+nameEntry(v1), 1, api.ErrShort, 0)
		noDefs(t, "a second entry's name too far", oneDef(2, v1)+defEntry(1, 2, 1, far, 0)+nameEntry(v1), 2, api.ErrShort, 28)
	}
	for _, far := range []uint32{29, 56, 57, 1 << 16, 1 << 31, farBeyond - 48, farBeyond - 27, farBeyond} {
		one := defEntry(1, 2, 1, 20, far) + nameEntry(v1)
		two := oneDef(2, v1) + one
		noDefs(t, "an entry too far", one, 2, api.ErrShort, uint64(far))
		noDefs(t, "a third entry too far", two, 3, api.ErrShort, 28+uint64(far))
	}
	for _, far := range []uint32{0, 1, 2, 20, 27, 28, 29, 1 << 31, farBeyond} {
		one := defEntry(1, 2, 1, 20, far) + nameEntry(v1)
		wantDefs(t, "the last one's next", one, 1, Def{2, "V1"})
		wantDefs(t, "the last one's next", oneDef(3, v2)+one, 2, Def{3, "V2"}, Def{2, "V1"})
	}
}

// P12.2: of all sets of faults of one entry the first one is told, and of two entries the first one's.
func TestDefsOrder(t *testing.T) {
	faulty := func(set int) (string, api.Errno) {
		form, count, first, place := uint16(1), uint16(1), uint32(20), uint32(v1)
		e := api.OK
		if set&8 != 0 {
			place, e = unended, api.ErrName
		}
		if set&4 != 0 {
			count, e = 0, api.ErrForm
		}
		if set&2 != 0 {
			form, e = 2, api.ErrForm
		}
		if set&1 != 0 {
			first, e = 1<<20, api.ErrShort
		}
		return defEntry(form, 2, count, first, 28) + nameEntry(place), e
	}
	right := Def{2, "V1"}
	for one := range 16 {
		b, e := faulty(one)
		for other := range 16 {
			c, e2 := faulty(other)
			switch {
			case e != api.OK:
				noDefs(t, "the first", b+c, 2, e, 0)
			case e2 != api.OK:
				noDefs(t, "the second", b+c, 2, e2, 28)
			default:
				wantDefs(t, "neither", b+c, 2, right, right)
			}
		}
		if e != api.OK {
			noDefs(t, "alone", b, 1, e, 0)
			noDefs(t, "and no other there", b, 2, e, 0)
		} else {
			noDefs(t, "no other there", b, 2, api.ErrShort, 28)
		}
	}
	noDefs(t, "short, and of the wrong form", strings.Repeat("\xff", 19), 1, api.ErrShort, 0)
}

// P12.3: ordinary ones, in order.
func TestNeeds(t *testing.T) {
	b := oneFile(libc, version(0, 2, v1, 16), version(2, 3, v2, 0)) + oneFile(v2, version(0, 4, v1, 0))
	first := []Need{{2, "libc", "V1", false}, {3, "libc", "V2", true}}
	wantNeeds(t, "no file", b, 0)
	wantNeeds(t, "one", b, 1, first...)
	wantNeeds(t, "two", b, 2, append(first, Need{4, "V2", "V1", false})...)
	noNeeds(t, "three", b, 3, api.ErrShort, 80)
	// The files stand ahead of all versions, those of the second one ahead of those of the first one, and apart.
	b = fileEntry(1, 2, v1, 70, 17) + "." + fileEntry(1, 1, v2, 18, 0) + ".." + version(2, 9, libc, 99) + "..." + strings.Repeat("?", 16) +
		version(0, 7, just, 17) + "!" + version(3, 7, last, 1)
	wantNeeds(t, "apart", b, 2, Need{7, "V1", longest, false}, Need{7, "V1", "", true}, Need{9, "V2", "libc", true})
	wantNeeds(t, "apart", b, 1, Need{7, "V1", longest, false}, Need{7, "V1", "", true})
}

// P12.3: each length of bytes.
func TestNeedsShort(t *testing.T) {
	b := oneFile(libc, version(0, 2, v1, 16), version(0, 3, v2, 0)) + oneFile(v2, version(0, 4, v1, 0))
	for n := range len(b) {
		var at uint64 // the first entry's, with its first version's
		switch {
		case n >= 48:
			at = 48 // the second entry's, with its first version's
		case n >= 32:
			at = 32 // the second version's own
		}
		noNeeds(t, "cut", b[:n], 2, api.ErrShort, at)
		if n < 48 {
			noNeeds(t, "cut", b[:n], 1, api.ErrShort, at)
		} else {
			wantNeeds(t, "cut", b[:n], 1, Need{2, "libc", "V1", false}, Need{3, "libc", "V2", false})
		}
	}
	// Versions that stand behind the second file's are gone through ahead of it.
	b = fileEntry(1, 1, libc, 48, 16) + fileEntry(1, 1, v2, 16, 0) + version(0, 2, v1, 0) + version(0, 3, v2, 0)
	wantNeeds(t, "just there", b, 2, Need{3, "libc", "V2", false}, Need{2, "V2", "V1", false})
	noNeeds(t, "just not there", b[:63], 2, api.ErrShort, 0)
	// The second file's first version stands behind all others.
	b = fileEntry(1, 2, libc, 32, 16) + fileEntry(1, 1, v2, 48, 0) + version(0, 2, v1, 16) + version(0, 3, v2, 0) + version(0, 4, v1, 0)
	wantNeeds(t, "just there", b, 2, Need{2, "libc", "V1", false}, Need{3, "libc", "V2", false}, Need{4, "V2", "V1", false})
	noNeeds(t, "just not there", b[:79], 2, api.ErrShort, 16)
	noNeeds(t, "nor is the first file's second one", b[:63], 2, api.ErrShort, 48)
	noNeeds(t, "nor is the first file's first one", b[:47], 2, api.ErrShort, 0)
}

// P12.3: how far versions and entries are, from 0 on and up to beyond 2^32.
func TestNeedsFar(t *testing.T) {
	v := version(0, 2, v1, 0)
	one := Need{2, "libc", "V1", false}
	// As a version, this entry has the place of libc as its flags, the number 0, and the name at 0.
	self := fileEntry(1, 1, libc, 0, 0)
	wantNeeds(t, "a version 0 away", self, 1, Need{0, "libc", "", true})
	wantNeeds(t, "a version and an entry 0 away", self, 64, times(64, Need{0, "libc", "", true})...)
	wantNeeds(t, "entries 0 away", fileEntry(1, 1, libc, 16, 0)+v, 64, times(64, one)...)
	wantNeeds(t, "versions 0 away", fileEntry(1, 64, libc, 16, 0)+v, 1, times(64, one)...)
	// What is one byte behind the beginning of an entry of the right form isn't of it.
	noNeeds(t, "an entry 1 away", fileEntry(1, 1, libc, 16, 1)+v+strings.Repeat("\x00", 1<<25), 2, api.ErrForm, 1)
	noNeeds(t, "an entry 1 away, and its first version isn't there", fileEntry(1, 1, libc, 16, 1)+v, 2, api.ErrShort, 1)
	noNeeds(t, "a version 1 away, of which the last byte isn't there", fileEntry(1, 2, libc, 16, 0)+version(0, 2, v1, 1), 1, api.ErrShort, 17)
	noNeeds(t, "a version 1 away, without a name", fileEntry(1, 2, libc, 16, 0)+version(0, 2, v1, 1)+".", 1, api.ErrName, 17)
	long := names + strings.Repeat("\x00", 1<<24-len(names)) + "far\x00"
	got, f := Needs(fileEntry(1, 2, libc, 16, 0)+version(0x0200, 0x0203, v1, 1)+".", long, 1)
	if !f.OK() || !slices.Equal(got, []Need{{0x0203, "libc", "V1", false}, {0x0102, "libc", "far", true}}) {
		t.Error(got, f)
	}
	for _, far := range []uint32{17, 32, 33, 1 << 16, 1 << 31, farBeyond - 32, farBeyond - 16, farBeyond - 15, farBeyond} {
		first := fileEntry(1, 1, libc, far, 16) + v
		noNeeds(t, "a first version too far", first, 1, api.ErrShort, 0)
		noNeeds(t, "a second file's first version too far", oneFile(libc, v)+first, 2, api.ErrShort, 32)
		noNeeds(t, "a second version too far", fileEntry(1, 2, libc, 16, 0)+version(0, 2, v1, far), 1, api.ErrShort, 16+uint64(far))
		noNeeds(t, "a second entry too far", fileEntry(1, 1, libc, 16, far)+v, 2, api.ErrShort, uint64(far))
		noNeeds(t, "a third entry too far", oneFile(libc, v)+fileEntry(1, 1, libc, 16, far)+v, 3, api.ErrShort, 32+uint64(far))
	}
	for _, far := range []uint32{0, 1, 15, 16, 17, 1 << 31, farBeyond} {
		wantNeeds(t, "the last version's next", oneFile(libc, version(0, 2, v1, far)), 1, one)
		wantNeeds(t, "the last file's next", fileEntry(1, 1, libc, 16, far)+v, 1, one)
		b := oneFile(libc, version(0, 2, v1, far)) + fileEntry(1, 2, v2, 16, far) + version(0, 3, v1, 16) + version(0, 4, v2, far)
		wantNeeds(t, "the last ones' next, of two", b, 2, one, Need{3, "V2", "V1", false}, Need{4, "V2", "V2", false})
	}
}

// P12.3: of all sets of faults of one file the first one is told, and of two files the first one's.
func TestNeedsOrder(t *testing.T) {
	// The fault of a file with its one version, and how far it is from the file's beginning.
	faulty := func(set int) (string, api.Errno, uint64) {
		form, count, name, first, place := uint16(1), uint16(1), uint32(libc), uint32(16), uint32(v1)
		e, at := api.OK, uint64(0)
		if set&16 != 0 {
			place, e, at = overlong, api.ErrName, 16
		}
		if set&8 != 0 {
			name, e, at = unended, api.ErrName, 0
		}
		if set&4 != 0 {
			count, e, at = 0, api.ErrForm, 0
		}
		if set&2 != 0 {
			form, e, at = 2, api.ErrForm, 0
		}
		if set&1 != 0 {
			first, e, at = 1<<20, api.ErrShort, 0
		}
		return fileEntry(form, count, name, first, 32) + version(0, 2, place, 0), e, at
	}
	right := Need{2, "libc", "V1", false}
	for one := range 32 {
		b, e, at := faulty(one)
		for other := range 32 {
			c, e2, at2 := faulty(other)
			switch {
			case e != api.OK:
				noNeeds(t, "the first", b+c, 2, e, at)
			case e2 != api.OK:
				noNeeds(t, "the second", b+c, 2, e2, 32+at2)
			default:
				wantNeeds(t, "neither", b+c, 2, right, right)
			}
		}
		if e != api.OK {
			noNeeds(t, "alone", b, 1, e, at)
			noNeeds(t, "and no other there", b, 2, e, at)
		} else {
			noNeeds(t, "no other there", b, 2, api.ErrShort, 32)
		}
	}
	noNeeds(t, "short, and of the wrong form", strings.Repeat("\xff", 15), 1, api.ErrShort, 0)
	noNeeds(t, "a version that is short, behind one without a name", fileEntry(1, 2, libc, 16, 0)+version(0, 2, unended, 16), 1, api.ErrName, 16)
	noNeeds(t, "a version without a name, ahead of one that is short", fileEntry(1, 3, libc, 16, 0)+version(0, 2, v1, 16)+version(0, 3, unended, 99), 1, api.ErrName, 32)
}

// P12.3: a first version that isn't there, of bytes that tell a wrong form, or no name, or nothing else wrong.
func TestNeedsFirst(t *testing.T) {
	v := version(0, 2, v1, 0)
	noNeeds(t, "bytes of a wrong form", "\x00\x10\x00\x00\x01\x00\x04\x00\x02\x00\x00\x00\x001\x00\x00", 1, api.ErrShort, 0)
	b := "\x01\x00\x01\x00\x00\x00\x00\x00\x10\x00\x00\x01\x00\x02\x00\x00"
	if got, f := Needs(b, "", 1); f != fail.Of(api.ErrShort) || len(got) != 0 {
		t.Error("no name:", got, f)
	}
	for _, e := range []struct {
		what        string
		form, count uint16
		name        uint32
		there       api.Errno // where the first version is there
	}{
		{"right", 1, 1, libc, api.OK},
		{"a wrong form", 2, 1, libc, api.ErrForm},
		{"no version", 1, 0, libc, api.ErrForm},
		{"no name", 1, 1, unended, api.ErrName},
		{"all of these", 0, 0, overlong, api.ErrForm},
	} {
		b := fileEntry(e.form, e.count, e.name, 16, 32) + v
		for n := range 16 {
			noNeeds(t, e.what, b[:16+n], 1, api.ErrShort, 0)
			noNeeds(t, e.what+", of the second", oneFile(libc, v)+b[:16+n], 2, api.ErrShort, 32)
		}
		if e.there == api.OK {
			wantNeeds(t, e.what, b, 1, Need{2, "libc", "V1", false})
			continue
		}
		noNeeds(t, e.what, b, 1, e.there, 0)
		noNeeds(t, e.what+", of the second", oneFile(libc, v)+b, 2, e.there, 32)
	}
	noNeeds(t, "a first version without a name stays at its own place", oneFile(libc, version(0, 2, unended, 0)), 1, api.ErrName, 16)
	noNeeds(t, "a second version that isn't there stays at its own place", fileEntry(1, 2, libc, 16, 0)+version(0, 2, v1, 16), 1, api.ErrShort, 32)
}

// P12.3: how many versions there may be in all, in one file and over several.
func TestNeedsLimit(t *testing.T) {
	v := version(0, 2, v1, 16)
	one := Need{2, "libc", "V1", false}
	file := func(n int) string { return oneFile(libc, times(n, v)...) }
	wantNeeds(t, "64", file(64), 1, times(64, one)...)
	noNeeds(t, "65", file(65), 1, api.ErrLimit, 16+64*16)
	noNeeds(t, "200", file(200), 1, api.ErrLimit, 16+64*16)
	noNeeds(t, "65535 at one place", fileEntry(1, 65535, libc, 16, 0)+version(0, 2, v1, 0), 1, api.ErrLimit, 16)
	noNeeds(t, "65 at one place", fileEntry(1, 65, libc, 16, 0)+version(0, 2, v1, 0), 1, api.ErrLimit, 16)
	wantNeeds(t, "60 and 4", file(60)+file(4), 2, times(64, one)...)
	noNeeds(t, "60 and 5", file(60)+file(5), 2, api.ErrLimit, 16+60*16+16+4*16)
	noNeeds(t, "64 and 1", file(64)+file(1), 2, api.ErrLimit, 16+64*16+16)
	wantNeeds(t, "64 and 1, of which one file is asked for", file(64)+file(1), 1, times(64, one)...)
	wantNeeds(t, "64 files of one", strings.Repeat(file(1), 64), 64, times(64, one)...)
	noNeeds(t, "63 files of one, and one of two", strings.Repeat(file(1), 63)+file(2), 64, api.ErrLimit, 63*32+32)
	noNeeds(t, "a file of two, 63 files of one", file(2)+strings.Repeat(file(1), 63), 64, api.ErrLimit, 48+62*32+16)
	noNeeds(t, "two versions, again and again", fileEntry(1, 2, libc, 16, 0)+v+v, 33, api.ErrLimit, 16)
	wantNeeds(t, "two versions, again and again", fileEntry(1, 2, libc, 16, 0)+v+v, 32, times(64, one)...)
}

// P12.3: what else is wrong with the version that is one too many, and with what is behind it, or ahead.
func TestNeedsLimitOrder(t *testing.T) {
	v := version(0, 2, v1, 16)
	right := strings.Repeat(v, 64)
	many := fileEntry(1, 65, libc, 16, 16) + right
	const at = 16 + 64*16
	noNeeds(t, "it isn't there", many, 1, api.ErrShort, at)
	noNeeds(t, "its last byte isn't there", many+v[:15], 1, api.ErrShort, at)
	noNeeds(t, "it has no name", many+version(0, 2, unended, 0), 1, api.ErrName, at)
	noNeeds(t, "it is right, and nothing is behind it", many+v, 1, api.ErrLimit, at)
	noNeeds(t, "one behind it isn't there", "\x01\x00\x42\x00"+many[4:]+v, 1, api.ErrLimit, at)
	noNeeds(t, "one behind it has no name", "\x01\x00\x42\x00"+many[4:]+v+version(0, 2, unended, 0), 1, api.ErrLimit, at)
	noNeeds(t, "the second file isn't right", many+v, 2, api.ErrLimit, at)
	noNeeds(t, "the one ahead has no name", many[:at-16]+version(0, 2, unended, 16)+v, 1, api.ErrName, at-16)
	full := fileEntry(1, 64, libc, 16, at) + right
	noNeeds(t, "64, and a file that isn't there", full, 2, api.ErrShort, at)
	noNeeds(t, "64, and a file of the wrong form", full+fileEntry(2, 1, libc, 16, 0)+v, 2, api.ErrForm, at)
	noNeeds(t, "64, and a file without versions", full+fileEntry(1, 0, libc, 16, 0)+v, 2, api.ErrForm, at)
	noNeeds(t, "64, and a file without versions, where none is, either", full+fileEntry(1, 0, libc, 16, 0), 2, api.ErrShort, at)
	noNeeds(t, "64, and a file without a name", full+fileEntry(1, 1, unended, 16, 0)+v, 2, api.ErrName, at)
	noNeeds(t, "64, and a file whose version isn't there", full+fileEntry(1, 1, libc, 16, 0), 2, api.ErrShort, at)
	noNeeds(t, "64, and a file whose second version isn't there", full+fileEntry(1, 2, libc, 16, 0)+v, 2, api.ErrLimit, at+16)
	noNeeds(t, "64, and a file whose version has no name", full+fileEntry(1, 1, libc, 16, 0)+version(0, 2, overlong, 0), 2, api.ErrName, at+16)
	noNeeds(t, "64, and a file with a version", full+fileEntry(1, 1, libc, 16, 0)+v, 2, api.ErrLimit, at+16)
}

// P12.4: each number that there is; what is left at the end isn't told.
func TestNumbers(t *testing.T) {
	var b []byte
	var want []int
	for n := range 1 << 16 {
		b = order.AppendUint16(b, uint16(n))
		want = append(want, n)
	}
	if got := Numbers(string(b)); !slices.Equal(got, want) {
		t.Error(len(got))
	}
	for s, want := range map[string][]int{
		"":                         nil,
		"\x01":                     nil,
		"\x02\x80":                 {0x8002},
		"\x02\x80\x07":             {0x8002},
		"\x01\x02\x03\x04":         {0x0201, 0x0403},
		"\x01\x02\x03\x04\xff":     {0x0201, 0x0403},
		"\x00\x00\xff\x7f\x00\x01": {0, 0x7fff, 256},
	} {
		if got := Numbers(s); !slices.Equal(got, want) {
			t.Errorf("%x: %v", s, got)
		}
	}
}

// wantOf: what a table tells of a symbol.
func wantOf(t *testing.T, x Table, i int, name, file string, hidden bool) {
	t.Helper()
	if gotName, gotFile, gotHidden := x.Of(i); gotName != name || gotFile != file || gotHidden != hidden {
		t.Errorf("%+v, %d: %q %q %v, not %q %q %v", x, i, gotName, gotFile, gotHidden, name, file, hidden)
	}
}

// P12.4: the first Def of a number, else the first Need of it, else nothing; hidden in any case.
func TestOf(t *testing.T) {
	x := Table{
		Defs:  []Def{{2, "first"}, {3, ""}, {2, "second"}, {0x7fff, "highest"}},
		Needs: []Need{{4, "liba", "A", false}, {2, "libb", "B", false}, {3, "libb", "C", true}, {4, "libc", "D", true}, {5, "libe", "", true}},
	}
	for _, c := range []struct {
		number     int
		name, file string
	}{
		{0, "", ""}, {1, "", ""}, // no version's
		{2, "first", ""}, {3, "", ""}, // a Def and a Need have them
		{4, "A", "liba"}, {5, "", "libe"},
		{6, "", ""}, {0x7ffe, "", ""}, {0x7fff, "highest", ""},
	} {
		for _, high := range []int{0, 0x8000} {
			x.Numbers = []int{9, 9, c.number + high, 9}
			wantOf(t, x, 2, c.name, c.file, high != 0)
			x.Numbers = []int{c.number + high}
			wantOf(t, x, 0, c.name, c.file, high != 0)
		}
	}
}

// P12.4: of a symbol without a number it is 1, which isn't hidden.
func TestOfNone(t *testing.T) {
	for _, i := range []int{-1, -2, 3, 4, 1 << 16, 1 << 32, math.MinInt, math.MaxInt} {
		x := Table{Defs: []Def{{0, "zero"}, {2, "two"}}, Needs: []Need{{0, "lib", "zero", false}}, Numbers: []int{0x8002, 0x8000, 0x8002}}
		wantOf(t, x, i, "", "", false)
		wantOf(t, Table{}, i, "", "", false)
		x.Needs = append(x.Needs, Need{1, "lib", "one", false})
		wantOf(t, x, i, "one", "lib", false)
		x.Defs = append(x.Defs, Def{1, "base"})
		wantOf(t, x, i, "base", "", false)
	}
	wantOf(t, Table{}, 0, "", "", false)
	wantOf(t, Table{Numbers: []int{0xffff}}, 0, "", "", true)
	wantOf(t, Table{Numbers: []int{0x8002, 3}}, 1, "", "", false)
}

// P12.2, P12.3, P12.4 together: a file's table.
func TestTable(t *testing.T) {
	var x Table
	var f [2]fail.Fault
	x.Defs, f[0] = Defs(oneDef(0x8002, v1)+oneDef(3, v2), names, 2)
	x.Needs, f[1] = Needs(oneFile(libc, version(0, 0x8004, v2, 0)), names, 1)
	x.Numbers = Numbers("\x00\x00\x01\x00\x02\x80\x03\x00\x04\x80\x05\x00\x04")
	if f != [2]fail.Fault{} {
		t.Fatal(f)
	}
	wantOf(t, x, 0, "", "", false)
	wantOf(t, x, 1, "", "", false)
	wantOf(t, x, 2, "V1", "", true)
	wantOf(t, x, 3, "V2", "", false)
	wantOf(t, x, 4, "V2", "libc", true)
	wantOf(t, x, 5, "", "", false)
	wantOf(t, x, 6, "", "", false)
}

// Rules: an answer is new memory, what is handed in isn't changed, and the same is told again.
func TestNewMemory(t *testing.T) {
	defs, needs := oneDef(2, v1)+oneDef(3, v2), oneFile(libc, version(0, 2, v1, 16), version(0, 3, v2, 0))
	for range 2 {
		wantDefs(t, "again", defs, 2, Def{2, "V1"}, Def{3, "V2"})
		wantNeeds(t, "again", needs, 1, Need{2, "libc", "V1", false}, Need{3, "libc", "V2", false})
		d, _ := Defs(defs, names, 2)
		n, _ := Needs(needs, names, 1)
		l := Numbers("\x02\x00\x03\x00")
		x := Table{Defs: slices.Clone(d)[:1], Needs: slices.Clone(n)[:1], Numbers: slices.Clone(l)[:1]}
		wantOf(t, x, 0, "V1", "", false)
		wantOf(t, x, 1, "", "", false)
		if !slices.Equal(x.Defs[:2], d) || !slices.Equal(x.Needs[:2], n) || !slices.Equal(x.Numbers[:2], l) || !slices.Equal(l, []int{2, 3}) {
			t.Errorf("changed: %+v", x)
		}
		d[0], n[0], l[0] = Def{}, Need{}, 0
	}
}

// add up a number from its last byte on.
func add(s string) (n int) {
	for k := len(s) - 1; k >= 0; k-- {
		n = n*256 + int(s[k])
	}
	return n
}

// ruleName: the name at a place, and whether there is one.
func ruleName(names string, place int) (string, bool) {
	if place >= len(names) {
		return "", false
	}
	name, _, ended := strings.Cut(names[place:], "\x00")
	return name, ended && len(name) < 33
}

// defsRule: P12.2 written anew, one entry and then the others.
func defsRule(b, names string, at, n int) ([]Def, fail.Fault) {
	if n == 0 {
		return nil, fail.Fault{}
	}
	wrong := func(e api.Errno) ([]Def, fail.Fault) { return nil, fail.Fault{Code: e, At: uint64(at)} }
	if at+20 > len(b) {
		return wrong(2)
	}
	e := b[at : at+20]
	place := at + add(e[12:16])
	if place+8 > len(b) {
		return wrong(2)
	}
	if e[0] != 1 || e[1] != 0 || e[6:8] == "\x00\x00" {
		return wrong(4)
	}
	name, ok := ruleName(names, add(b[place:place+4]))
	if !ok {
		return wrong(25)
	}
	l, f := defsRule(b, names, at+add(e[16:20]), n-1)
	if !f.OK() {
		return nil, f
	}
	return append([]Def{{add(e[4:6]) % (1 << 15), name}}, l...), f
}

// needsRule: P12.3 written anew, one version at at or, where none is left, one entry at next, and then the others.
func needsRule(b, names, file string, at, left, next, n int, l []Need) ([]Need, fail.Fault) {
	wrong := func(e api.Errno) ([]Need, fail.Fault) { return nil, fail.Fault{Code: e, At: uint64(at)} }
	switch {
	case left == 0 && n == 0:
		return l, fail.Fault{}
	case left == 0:
		at = next
	}
	if at+16 > len(b) {
		return wrong(2)
	}
	e := b[at : at+16]
	if left > 0 {
		name, ok := ruleName(names, add(e[8:12]))
		if !ok {
			return wrong(25)
		}
		if l = append(l, Need{add(e[6:8]) % (1 << 15), file, name, add(e[4:6])/2%2 == 1}); len(l) > 64 {
			return wrong(6)
		}
		return needsRule(b, names, file, at+add(e[12:16]), left-1, next, n, l)
	}
	if at+add(e[8:12])+16 > len(b) {
		return wrong(2)
	}
	if e[0] != 1 || e[1] != 0 || e[2:4] == "\x00\x00" {
		return wrong(4)
	}
	file, ok := ruleName(names, add(e[4:8]))
	if !ok {
		return wrong(25)
	}
	return needsRule(b, names, file, at+add(e[8:12]), add(e[2:4]), at+add(e[12:16]), n-1, l)
}

// wantRules: Defs and Needs tell what the rules tell.
func wantRules(t *testing.T, b, names string, n int) (defs, needs api.Errno) {
	t.Helper()
	var wantD []Def
	var wantN []Need
	wantF, wantG := fail.Fault{Code: 6}, fail.Fault{Code: 6}
	if n >= 0 && n < 65 {
		wantD, wantF = defsRule(b, names, 0, n)
		wantN, wantG = needsRule(b, names, "", 0, 0, 0, n, nil)
	}
	if got, f := Defs(b, names, n); f != wantF || !slices.Equal(got, wantD) {
		t.Fatalf("Defs of %x, %q, %d: %v %v, not %v %v", b, names, n, got, f, wantD, wantF)
	}
	if got, f := Needs(b, names, n); f != wantG || !slices.Equal(got, wantN) {
		t.Fatalf("Needs of %x, %q, %d: %v %v, not %v %v", b, names, n, got, f, wantN, wantG)
	}
	return wantF.Code, wantG.Code
}

// P12.2, P12.3: right bytes with some changes, by chance, always the same ones.
func TestRules(t *testing.T) {
	r := rand.New(rand.NewSource(12))
	right := []string{
		oneDef(2, v1) + oneDef(3, v2) + oneDef(4, libc),
		defEntry(1, 5, 2, 56, 20) + defEntry(1, 6, 1, 20, 77) + nameEntry(v2) + "between " + nameEntry(v1) + nameEntry(unended),
		oneFile(libc, version(0, 2, v1, 16), version(2, 3, v2, 0)) + oneFile(v2, version(0, 4, v1, 0)) + oneFile(v1, version(0, 5, just, 0)),
		fileEntry(1, 30, libc, 48, 16) + fileEntry(1, 30, v2, 48, 16) + fileEntry(1, 4, v1, 16, 0) + version(0, 2, v1, 0) + version(0, 3, v2, 0),
	}
	values := []byte{0, 0, 1, 1, 2, 3, 4, 7, 8, 12, 13, 16, 20, 24, 28, 32, 45, 46, 64, 128, 255}
	met := map[api.Errno]int{}
	for range 100000 {
		b := []byte(right[r.Intn(len(right))])
		for range r.Intn(4) {
			b[r.Intn(len(b))] = values[r.Intn(len(values))]
		}
		if r.Intn(8) == 0 {
			b = b[:r.Intn(len(b)+1)]
		}
		d, n := wantRules(t, string(b), names, r.Intn(5))
		met[d]++
		met[n+100]++
	}
	for _, e := range []api.Errno{api.OK, api.ErrShort, api.ErrForm, api.ErrName} {
		if met[e] < 1000 || met[e+100] < 1000 {
			t.Errorf("%s: met %d and %d times", fail.Word(e), met[e], met[e+100])
		}
	}
	if met[api.ErrLimit+100] < 100 {
		t.Errorf("too many versions met %d times", met[api.ErrLimit+100])
	}
}

// P1, P3: whatever the bytes are.
func FuzzRules(f *testing.F) {
	f.Add(oneDef(2, v1)+oneDef(3, v2), names, 2)
	f.Add(oneFile(libc, version(0, 2, v1, 16), version(2, 3, v2, 0)), names, 1)
	f.Add(fileEntry(1, 65535, 0, 0, 0), "\x00", 64)
	f.Add("", "", 65)
	f.Fuzz(func(t *testing.T, b, names string, n int) {
		wantRules(t, b, names, n)
		if got := Hash(b); got != hashRule(b) {
			t.Fatalf("Hash of %x: %#x", b, got)
		}
		l := Numbers(b)
		d, _ := Defs(b, names, n)
		x := Table{Defs: d, Numbers: l}
		for i, k := range l {
			if _, file, hidden := x.Of(i); k != add(b[2*i:2*i+2]) || file != "" || hidden != (k > 0x7fff) {
				t.Fatalf("%x: the number %d is %d, %q %v", b, i, k, file, hidden)
			}
		}
		x.Of(n)
	})
}
