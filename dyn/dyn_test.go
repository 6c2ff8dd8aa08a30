package dyn

import (
	"encoding/binary"
	"math"
	"slices"
	"strings"
	"testing"

	"turnbuckle/api"
	"turnbuckle/fail"
	"turnbuckle/head"
)

// Where the Loads of the tests' images are: tables has the bytes that a test gives, and noughts behind them; next begins just
// where it ends; room has noughts alone, more than a section may have; behind each of the last two there is a hole.
const (
	tables = 1024
	next   = tables + 1<<13
	hole   = next + 512
	room   = 1 << 14
	end    = room + 1<<17
)

// image with the tests' Loads and these other segments; b is at tables.
func image(t testing.TB, b string, segs ...head.Segment) head.Image {
	t.Helper()
	segs = append([]head.Segment{
		{Kind: head.Load, Perm: 4, Addr: tables, File: uint64(len(b)), Mem: next - tables},
		{Kind: head.Load, Perm: 6, Addr: next, Mem: hole - next},
		{Kind: head.Load, Perm: 6, Addr: room, Mem: end - room},
	}, segs...)
	segs[0].Off = 64 + 56*uint64(len(segs))
	put := binary.LittleEndian
	s := []byte("\x7fELF\x02\x01\x01" + strings.Repeat("\x00", 9) + "\x03\x00\xf3\x00\x01\x00\x00\x00")
	s = put.AppendUint64(put.AppendUint64(s, 0), 64)
	s = append(s, strings.Repeat("\x00", 12)+"\x40\x00\x38\x00"...)
	s = append(put.AppendUint16(s, uint16(len(segs))), strings.Repeat("\x00", 6)...)
	for _, g := range segs {
		s = put.AppendUint32(put.AppendUint32(s, g.Kind), uint32(g.Perm))
		for _, n := range []uint64{g.Off, g.Addr, 0, g.File, g.Mem, 0} {
			s = put.AppendUint64(s, n)
		}
	}
	i, f := head.Read(string(s) + b)
	if !f.OK() {
		t.Fatal(f.Text())
	}
	return i
}

// dynamic: a segment of the kind Dynamic; none of it is in the file.
func dynamic(addr, mem uint64) head.Segment {
	return head.Segment{Kind: head.Dynamic, Addr: addr, Mem: mem}
}

// text of entries.
func text(l ...Entry) string {
	var b []byte
	for _, e := range l {
		b = binary.LittleEndian.AppendUint64(b, e.Tag)
		b = binary.LittleEndian.AppendUint64(b, e.Value)
	}
	return string(b)
}

// wantTable: an image has these entries.
func wantTable(t *testing.T, what string, i head.Image, want ...Entry) {
	t.Helper()
	got, f := Read(i)
	if f != (fail.Fault{}) || !slices.Equal(got, want) {
		t.Errorf("%s: %v %v", what, got, f)
	}
}

// wantFault: an image has no section that may be read.
func wantFault(t *testing.T, what string, i head.Image, e api.Errno, at uint64) {
	t.Helper()
	got, f := Read(i)
	if f != (fail.Fault{Code: e, At: at}) || len(got) != 0 {
		t.Errorf("%s: %v %q at %d, not %q at %d", what, got, fail.Word(f.Code), f.At, fail.Word(e), at)
	}
}

// The tags' numbers are those of ELF.
func TestTags(t *testing.T) {
	got := []int{Needed, PltSize, Hash, StrTab, SymTab, Rela, RelaSize, StrSize, Soname, JmpRel, BindNow, InitArray, FiniArray, InitSize, FiniSize, GnuHash, VerSym, Flags1, VerDef, VerDefs, VerNeed, VerNeeds}
	want := []int{1, 2, 4, 5, 6, 7, 8, 10, 14, 23, 24, 25, 26, 27, 28, 0x6ffffef5, 0x6ffffff0, 0x6ffffffb, 0x6ffffffc, 0x6ffffffd, 0x6ffffffe, 0x6fffffff}
	if !slices.Equal(got, want) {
		t.Error(got)
	}
}

// P10.1, P10.2: the chapter's example.
func TestExample(t *testing.T) {
	d, f := Read(image(t, text(Entry{1, 5}, Entry{0, 0}), dynamic(tables, 32)))
	if n, ok := d.Get(Needed); !f.OK() || n != 5 || !ok {
		t.Error(d, f, n, ok)
	}
}

// P10.1: the entries ahead of the one that ends it, whatever they are, in order.
func TestRead(t *testing.T) {
	l := []Entry{{Needed, 7}, {math.MaxUint64, math.MaxUint64}, {Needed, 0}, {256, 1}, {1 << 63, 2}, {1 << 8, 0}, {Needed, 7}, {3, 1 << 40}}
	b := text(l...)
	wantTable(t, "just so long", image(t, b+text(Entry{}), dynamic(tables, uint64(len(b))+16)), l...)
	wantTable(t, "with more", image(t, b+text(Entry{0, 99}, Entry{Needed, 1}, Entry{}), dynamic(tables, 1024)), l...)
	wantTable(t, "elsewhere", image(t, "abc"+b, dynamic(tables+3, 1000)), l...)
	wantTable(t, "empty", image(t, text(Entry{0, 5}, Entry{1, 1}), dynamic(tables, 16)))
	wantTable(t, "noughts", image(t, "", dynamic(room+7, 17)))
}

// P10.1: ErrNone, where no segment is of that kind.
func TestNone(t *testing.T) {
	wantFault(t, "no others", image(t, text(Entry{})), api.ErrNone, 0)
	wantFault(t, "others", image(t, text(Entry{}), head.Segment{Kind: head.Relro, Addr: tables, Mem: 16}, head.Segment{Kind: 3, Addr: tables, Mem: 16}), api.ErrNone, 0)
	wantFault(t, "no image", head.Image{}, api.ErrNone, 0)
}

// P10.1: the first segment of the kind counts, whatever the others are.
func TestFirst(t *testing.T) {
	b := text(Entry{1, 2}, Entry{}, Entry{3, 4}, Entry{})
	first, second, none := dynamic(tables, 32), dynamic(tables+32, 32), dynamic(hole, 32)
	relro := head.Segment{Kind: head.Relro, Addr: tables + 32, Mem: 32}
	wantTable(t, "the first", image(t, b, relro, first, second), Entry{1, 2})
	wantTable(t, "the other", image(t, b, second, first), Entry{3, 4})
	wantTable(t, "the right one first", image(t, b, second, none), Entry{3, 4})
	wantFault(t, "the wrong one first", image(t, b, none, second), api.ErrRange, hole)
}

// P10.1: ErrRange, by the size, and by the Loads; no entry is looked at ahead of it.
func TestRange(t *testing.T) {
	b := text(Entry{1, 2}, Entry{})
	for _, c := range []struct {
		addr, mem uint64
		e         api.Errno
	}{
		{room, 1 << 16, api.OK},
		{room, 1<<16 - 1, api.OK},
		{room, 1<<16 + 1, api.ErrRange},
		{room, 1<<16 + 16, api.ErrRange},
		{room, 1 << 17, api.ErrRange},
		{room, 1 << 32, api.ErrRange},
		{room, 1<<32 + 16, api.ErrRange},
		{room, 1 << 63, api.ErrRange},
		{room, 1<<64 - room, api.ErrRange},
		{room, math.MaxUint64, api.ErrRange},
		{end - 1<<16, 1 << 16, api.OK},
		{end - 1<<16 + 1, 1 << 16, api.ErrRange},
		{end - 16, 16, api.OK},
		{end - 16, 17, api.ErrRange},
		{end, 0, api.ErrRange},
		{end, 16, api.ErrRange},
		{tables, next - tables, api.OK},
		{tables, next - tables + 1, api.ErrRange}, // all of it is there, but of two Loads
		{next - 16, 32, api.ErrRange},
		{next - 16, 16, api.OK},
		{next, 16, api.OK},
		{hole, 0, api.ErrRange},
		{hole, 16, api.ErrRange},
		{hole - 16, 32, api.ErrRange},
		{room - 16, 32, api.ErrRange},
		{0, 16, api.ErrRange},
		{math.MaxUint64, 16, api.ErrRange},
		{1<<64 - 16, 16, api.ErrRange},
		{1<<64 - 16, 16 + room, api.ErrRange},
		{1<<32 + room, 16, api.ErrRange},
	} {
		i := image(t, b, dynamic(c.addr, c.mem))
		switch {
		case c.e != api.OK:
			wantFault(t, "range", i, c.e, c.addr)
		case c.addr == tables:
			wantTable(t, "range", i, Entry{1, 2})
		default:
			wantTable(t, "range", i)
		}
	}
}

// P10.1: how much of it is in the file, by its own program header, doesn't matter.
func TestSizeInMemory(t *testing.T) {
	g := dynamic(tables, 48)
	for _, g.File = range []uint64{0, 1, 16, 48, 90} {
		wantTable(t, "in the file", image(t, text(Entry{1, 2}, Entry{3, 4}), g), Entry{1, 2}, Entry{3, 4})
	}
	g = dynamic(tables, 16)
	g.File = 90
	wantFault(t, "more in the file", image(t, text(Entry{1, 2}, Entry{}), g), api.ErrShort, tables)
}

// P10.1: ErrShort, where no entry that goes into it ends it.
func TestShort(t *testing.T) {
	b := text(Entry{1, 2}, Entry{3, 4})
	for mem := range uint64(64) {
		i := image(t, b, dynamic(tables, mem))
		if mem < 48 {
			wantFault(t, "not ended", i, api.ErrShort, tables)
		} else {
			wantTable(t, "ended", i, Entry{1, 2}, Entry{3, 4})
		}
	}
	for mem := range uint64(16) {
		wantFault(t, "no entry", image(t, "", dynamic(room, mem)), api.ErrShort, room)
	}
}

// P10.1: ErrLimit, where it has more than MaxTags entries, and ends.
func TestLimit(t *testing.T) {
	var l []Entry
	for k := range 64 {
		l = append(l, Entry{uint64(64 - k), uint64(k)})
	}
	put := func(l []Entry, mem uint64) head.Image { return image(t, text(l...), dynamic(tables, mem)) }
	wantTable(t, "MaxTags", put(l, 65*16), l...)
	wantTable(t, "MaxTags, and more behind the end", put(append(slices.Clone(l), Entry{}, Entry{1, 1}), 67*16), l...)
	wantFault(t, "MaxTags, not ended", put(l, 64*16), api.ErrShort, tables)
	l = append(l, Entry{1, 1})
	wantFault(t, "one more", put(l, 66*16), api.ErrLimit, tables)
	wantFault(t, "one more, not ended", put(l, 65*16+15), api.ErrShort, tables)
	for range 200 {
		l = append(l, Entry{2, 2})
	}
	wantFault(t, "many more", put(l, next-tables), api.ErrLimit, tables)
	wantFault(t, "many more, not ended", put(l, uint64(len(l))*16), api.ErrShort, tables)
}

// P10.2.
func TestGetAll(t *testing.T) {
	d := Table{{5, 50}, {7, 70}, {5, 0}, {5, 51}, {math.MaxUint64, 1}, {7, 70}, {8, 0}}
	for tag, want := range map[uint64][]uint64{5: {50, 0, 51}, 7: {70, 70}, 8: {0}, math.MaxUint64: {1}, 0: nil, 6: nil, 5 + 1<<32: nil, 1 << 63: nil} {
		var first uint64
		if len(want) > 0 {
			first = want[0]
		}
		if got, ok := d.Get(tag); got != first || ok != (len(want) > 0) {
			t.Errorf("Get(%d): %d %v", tag, got, ok)
		}
		all := d.All(tag)
		for range 2 {
			var got []uint64
			for n := range all {
				got = append(got, n)
			}
			if !slices.Equal(got, want) {
				t.Errorf("All(%d): %v", tag, got)
			}
		}
		for stop := range want {
			met := 0
			all(func(uint64) bool {
				met++
				return met <= stop
			})
			if met != stop+1 {
				t.Errorf("All(%d), told to end at %d: %d values", tag, stop, met)
			}
		}
	}
	for _, none := range []Table{nil, {}} {
		if n, ok := none.Get(0); n != 0 || ok {
			t.Error(n, ok)
		}
		for n := range none.All(0) {
			t.Error(n)
		}
	}
}

// wantText: a text of a table, or none.
func wantText(t *testing.T, d Table, i head.Image, at uint64, want string, there bool) {
	t.Helper()
	if got, ok := d.Text(i, at); got != want || ok != there {
		t.Errorf("%v: the text at %d: %q %v", d, at, got, ok)
	}
}

// P10.3: each place of a table of texts.
func TestText(t *testing.T) {
	long := strings.Repeat("x", 33)
	b := "\x00ab\x00\xff\x01\x00" + long + "\x00last"
	i := image(t, b+"\x00")
	d := Table{{StrSize, uint64(len(b))}, {StrTab, tables}, {StrSize, 1}, {StrTab, hole}}
	for at := range len(b) + 3 {
		want, there := "", false
		if at < len(b) {
			want, _, there = strings.Cut(b[at:], "\x00")
		}
		if !there || len(want) > 32 {
			want, there = "", false
		}
		wantText(t, d, i, uint64(at), want, there)
	}
	wantText(t, d, i, 1, "ab", true)
	wantText(t, d, i, 7, "", false)
	wantText(t, d, i, 8, long[1:], true)
	for _, far := range []uint64{1 << 16, 1<<32 + 1, 1 << 63, 1<<64 - tables, math.MaxUint64} {
		wantText(t, d, i, far, "", false)
	}
	// With one byte more the last one is ended.
	d[0].Value++
	wantText(t, d, i, uint64(len(b))-4, "last", true)
	wantText(t, d, i, uint64(len(b)), "", true)
	wantText(t, d, i, uint64(len(b))+1, "", false)
}

// P10.3: where there is no table of texts.
func TestNoTexts(t *testing.T) {
	i := image(t, "ab\x00")
	wantText(t, Table{{StrTab, tables}, {StrSize, 3}}, i, 0, "ab", true)
	wantText(t, Table{{StrTab, room}, {StrSize, 1 << 16}}, i, 1<<16-1, "", true)
	for _, d := range []Table{
		nil,
		{{StrTab, tables}},
		{{StrSize, 3}},
		{{StrTab, tables}, {RelaSize, 3}},
		{{StrTab, tables}, {StrSize, 0}},
		{{StrTab, room}, {StrSize, 1<<16 + 1}},
		{{StrTab, room}, {StrSize, 1 << 63}},
		{{StrTab, room}, {StrSize, math.MaxUint64}},
		{{StrTab, tables}, {StrSize, next - tables + 1}},
		{{StrTab, hole}, {StrSize, 3}},
		{{StrTab, math.MaxUint64}, {StrSize, 3}},
		{{StrTab, end}, {StrSize, 0}},
	} {
		wantText(t, d, i, 0, "", false)
	}
}

// P10.3.
func TestSpan(t *testing.T) {
	b := "abcdefgh"
	i := image(t, b)
	const tag, size = Rela, RelaSize
	for _, c := range []struct {
		d     Table
		want  string
		there bool
	}{
		{nil, "", true},
		{Table{{size, 8}}, "", true},
		{Table{{size, math.MaxUint64}}, "", true},
		{Table{{tag, tables}}, "", false},
		{Table{{tag, hole}, {PltSize, 8}}, "", false},
		{Table{{tag, tables}, {size, 8}}, b, true},
		{Table{{size, 3}, {tag, tables + 2}, {size, 1}, {tag, tables}}, "cde", true},
		{Table{{tag, tables + 6}, {size, 4}}, "gh\x00\x00", true},
		{Table{{tag, tables}, {size, 0}}, "", true},
		{Table{{tag, next - 1}, {size, 0}}, "", true},
		{Table{{tag, hole}, {size, 0}}, "", false},
		{Table{{tag, end}, {size, 0}}, "", false},
		{Table{{tag, 0}, {size, 0}}, "", false},
		{Table{{tag, next - 1}, {size, 1}}, "\x00", true},
		{Table{{tag, next - 1}, {size, 2}}, "", false},
		{Table{{tag, hole - 1}, {size, 2}}, "", false},
		{Table{{tag, room}, {size, 1 << 16}}, strings.Repeat("\x00", 1<<16), true},
		{Table{{tag, end - 1<<16}, {size, 1 << 16}}, strings.Repeat("\x00", 1<<16), true},
		{Table{{tag, room}, {size, 1<<16 + 1}}, "", false},
		{Table{{tag, room}, {size, 1 << 32}}, "", false},
		{Table{{tag, room}, {size, 1<<64 - room}}, "", false},
		{Table{{tag, room}, {size, math.MaxUint64}}, "", false},
		{Table{{tag, math.MaxUint64}, {size, 1}}, "", false},
		{Table{{tag, 1<<64 - 8}, {size, tables + 16}}, "", false},
	} {
		if got, ok := c.d.Span(i, tag, size); got != c.want || ok != c.there {
			t.Errorf("%v: %q %v", c.d, got, ok)
		}
	}
	// Any two tags, also one for both, and none that has a name.
	d := Table{{0, tables}, {99, 2}, {1000, 1000}}
	if got, ok := d.Span(i, 0, 99); got != "ab" || !ok {
		t.Error(got, ok)
	}
	if got, ok := d.Span(i, 1000, 1000); got != "" || ok {
		t.Error(got, ok)
	}
	if got, ok := d.Span(i, math.MaxUint64, 99); got != "" || !ok {
		t.Error(got, ok)
	}
	if got, ok := d.Span(head.Image{}, 0, 99); got != "" || ok {
		t.Error(got, ok)
	}
}

// Rules: an answer is new memory, and what is handed in isn't changed.
func TestNewMemory(t *testing.T) {
	i := image(t, text(Entry{1, 2}, Entry{3, 4}, Entry{}), dynamic(tables, 48))
	segs := slices.Clone(i.Segments)
	a, _ := Read(i)
	a[0] = Entry{9, 9}
	_ = append(a[:1], Entry{8, 8})
	wantTable(t, "again", i, Entry{1, 2}, Entry{3, 4})
	if !slices.Equal(i.Segments, segs) {
		t.Error(i.Segments)
	}
}

// P1, P3: whatever bytes a section has, there is a fault at its address, or a table that may be asked.
func FuzzRead(f *testing.F) {
	f.Add(text(Entry{StrTab, tables}, Entry{StrSize, 40}, Entry{}), uint64(tables), uint64(48))
	f.Add("", uint64(hole), uint64(math.MaxUint64))
	f.Fuzz(func(t *testing.T, b string, addr, mem uint64) {
		if len(b) > next-tables {
			return
		}
		i := image(t, b, dynamic(addr, mem))
		d, fault := Read(i)
		if !fault.OK() {
			if fault.At != addr || len(d) != 0 {
				t.Error(d, fault)
			}
			return
		}
		if len(d) > api.MaxTags || uint64(len(d)) >= mem/16 {
			t.Error(len(d), mem)
		}
		for _, e := range d {
			if n, ok := d.Get(e.Tag); !ok || e.Tag == 0 {
				t.Error(n, ok, e)
			}
			d.Text(i, e.Value)
			d.Span(i, e.Tag, e.Value)
		}
	})
}
