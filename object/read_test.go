package object

import (
	"math"
	"reflect"
	"strings"
	"testing"

	"turnbuckle/api"
	"turnbuckle/dyn"
	"turnbuckle/fail"
	"turnbuckle/gnu"
	"turnbuckle/head"
	"turnbuckle/le"
	"turnbuckle/rela"
	"turnbuckle/span"
)

// The two kinds of hash tables.
var kinds = []bool{false, true}

// whole: what is read of a draft that nobody has changed.
func whole() Object {
	return Object{
		Soname:   "liba",
		Needed:   []string{"libb", "libc"},
		Symbols:  drafted(),
		Versions: []Version{{}, {}, {Name: "V1", Hidden: true}, {Name: "V2"}, {}, {Name: "C1", File: "libc"}, {Hidden: true}},
		Data:     draftedData(),
		Plt:      draftedSlots(),
		Init:     span.Span{Lo: dataAt + 0x10, Hi: dataAt + 0x20},
		Fini:     span.Span{Lo: dataAt + 0x20, Hi: dataAt + 0x28},
		Relro:    []span.Span{{Lo: dataAt, Hi: dataAt + 0x200}},
	}
}

// P17.1: all parts of a file.
func TestWhole(t *testing.T) {
	for _, is := range kinds {
		d := base(is)
		o := d.read(t, "whole")
		wantSame(t, "whole", o, whole())
		if i, f := head.Read(d.file()); !f.OK() || !reflect.DeepEqual(o.Image, i) {
			t.Error("image", f)
		}
	}
}

// P17.1: what may be left out is nothing then.
func TestLeast(t *testing.T) {
	for _, is := range kinds {
		d := base(is)
		d.drop(dyn.Soname, dyn.Needed, dyn.VerSym, dyn.VerDef, dyn.VerDefs, dyn.VerNeed, dyn.VerNeeds, dyn.Rela, dyn.RelaSize,
			dyn.JmpRel, dyn.PltSize, dyn.InitArray, dyn.InitSize, dyn.FiniArray, dyn.FiniSize)
		d.relro()
		wantSame(t, "least", d.read(t, "least"), Object{Symbols: drafted(), Versions: make([]Version, 7)})
	}
}

// flaw: what may be wrong with a file, and the fault that is told of it.
type flaw struct {
	what string
	make func(d *draft)
	want fail.Fault
}

// flaws of a file with either hash table, in the order in which they are looked at.
func flaws(isGnu bool) []flaw {
	of, at := fail.Of, fail.At
	set := func(l ...uint64) func(*draft) {
		return func(d *draft) {
			for i := 0; i < len(l); i += 2 {
				d.set(l[i], l[i+1])
			}
		}
	}
	drop := func(tags ...uint64) func(*draft) { return func(d *draft) { d.drop(tags...) } }
	poke := func(at uint64, b string) func(*draft) { return func(d *draft) { d.poke(at, b) } }
	relro := func(l ...span.Span) func(*draft) { return func(d *draft) { d.relro(l...) } }
	after := func(f func(string) string) func(*draft) { return func(d *draft) { d.after = f } }
	tag, table, bucket := uint64(dyn.Hash), uint64(sysvAt), uint64(8)
	if isGnu {
		tag, table, bucket = dyn.GnuHash, gnuAt, 24
	}
	return []flaw{
		// 1.
		{"no bytes", after(func(string) string { return "" }), of(api.ErrShort)},
		{"no file", after(func(s string) string { return "x" + s[1:] }), of(api.ErrMagic)},
		{"a Load", func(d *draft) { d.loads[1].Addr++ }, at(api.ErrAlign, 64+56)},
		{"no dynamic section", func(d *draft) { d.after = func(s string) string { return undynamic(s) } }, of(api.ErrNone)},
		{"an open dynamic section", func(d *draft) { d.open = true }, at(api.ErrShort, dynAt)},
		// 2.
		{"no table", drop(dyn.Hash, dyn.GnuHash), of(api.ErrNone)},
		{"a table of no Load", set(tag, hole), at(api.ErrRange, hole)},
		{"a table behind the bytes of a Load", set(tag, dataEnd), at(api.ErrRange, dataEnd)},
		{"a short table", set(tag, dataEnd-4), of(api.ErrShort)},
		{"a table of noughts", set(tag, nextAt), of(api.ErrForm)},
		{"no Buckets", poke(table, le.Put(0, 4)), of(api.ErrForm)},
		{"too many Buckets", poke(table, le.Put(257, 4)), of(api.ErrLimit)},
		{"a Bucket", poke(table+bucket, le.Put(256, 4)), at(api.ErrRange, bucket)},
		// 3.
		{"no symbols", drop(dyn.SymTab), of(api.ErrNone)},
		{"symbols of no Load", set(dyn.SymTab, hole), at(api.ErrRange, hole)},
		{"symbols that are short", set(dyn.SymTab, dataEnd-24*7+1), at(api.ErrRange, dataEnd-24*7+1)},
		{"no string table", drop(dyn.StrTab), of(api.ErrName)},
		{"no size of the string table", drop(dyn.StrSize), of(api.ErrName)},
		{"a string table of no Load", set(dyn.StrTab, hole), of(api.ErrName)},
		{"a string table that is short", set(dyn.StrTab, dataEnd-uint64(len(names))+1), of(api.ErrName)},
		{"a string table that is long", set(dyn.StrSize, 1<<16+1), of(api.ErrName)},
		{"an empty string table", set(dyn.StrSize, 0), of(api.ErrName)},
		{"a name of a symbol", poke(symAt+24*3, le.Put(beyondName, 4)), at(api.ErrName, 24*3)},
		{"a binding", poke(symAt+24*4+4, le.Put(3<<4, 1)), at(api.ErrForm, 24*4)},
		// 4.
		{"a Soname beyond", set(dyn.Soname, beyondName), at(api.ErrName, beyondName)},
		{"an empty Soname", set(dyn.Soname, emptyName), at(api.ErrName, emptyName)},
		{"an empty Soname at 0", set(dyn.Soname, 0), of(api.ErrName)},
		{"a Needed beyond", set(dyn.Needed, math.MaxUint64), at(api.ErrName, math.MaxUint64)},
		{"an empty Needed", set(dyn.Needed, emptyName), at(api.ErrName, emptyName)},
		{"a second Needed beyond", func(d *draft) { d.add(dyn.Needed, beyondName) }, at(api.ErrName, beyondName)},
		// 5.
		{"numbers of no Load", set(dyn.VerSym, hole), at(api.ErrRange, hole)},
		{"numbers that are short", set(dyn.VerSym, dataEnd-13), at(api.ErrRange, dataEnd-13)},
		{"definitions of no Load", set(dyn.VerDef, hole), at(api.ErrRange, hole)},
		{"definitions that are short", set(dyn.VerDef, dataEnd-19, dyn.VerDefs, 1), of(api.ErrShort)},
		{"too many definitions", set(dyn.VerDefs, 65), of(api.ErrLimit)},
		{"a definition", poke(verDefAt+28, le.Put(2, 2)), at(api.ErrForm, 28)},
		{"a definition's name", poke(verDefAt+28+20, le.Put(beyondName, 4)), at(api.ErrName, 28)},
		{"needs of no Load", set(dyn.VerNeed, hole), at(api.ErrRange, hole)},
		{"needs that are short", set(dyn.VerNeed, dataEnd-15, dyn.VerNeeds, 1), of(api.ErrShort)},
		{"too many needs", set(dyn.VerNeeds, math.MaxUint64), of(api.ErrLimit)},
		{"a need", poke(verNeedAt, le.Put(2, 2)), of(api.ErrForm)},
		{"a need's version", poke(verNeedAt+16+8, le.Put(beyondName, 4)), at(api.ErrName, 16)},
		// 6.
		{"no RelaSize", drop(dyn.RelaSize), of(api.ErrRange)},
		{"relocations of no Load", set(dyn.Rela, hole), of(api.ErrRange)},
		{"relocations that are short", set(dyn.Rela, dataEnd-24*4+1, dyn.RelaSize, 24*4), of(api.ErrRange)},
		{"part of a relocation", set(dyn.RelaSize, 24*4-8), of(api.ErrForm)},
		{"a kind of a relocation", poke(relaAt+24+8, le.Put(6, 4)), at(api.ErrReloc, 24)},
		{"a symbol of a relocation", poke(relaAt+24+12, le.Put(7, 4)), at(api.ErrRange, 24)},
		{"a relocation of no Load", poke(relaAt+24, le.Put(hole, 8)), at(api.ErrRange, hole)},
		{"no PltSize", drop(dyn.PltSize), of(api.ErrRange)},
		{"slots of no Load", set(dyn.JmpRel, hole), of(api.ErrRange)},
		{"part of a slot", set(dyn.PltSize, 24*2-1), of(api.ErrForm)},
		{"an address of a slot", poke(pltAt+24, le.Put(dataAt+4, 8)), at(api.ErrAlign, 24)},
		{"a slot over a Load's end", poke(pltAt+24, le.Put(dataAt+0x3f0, 8)), at(api.ErrRange, dataAt+0x3f0)},
		{"no slot", poke(pltAt+8, le.Put(2, 4)), at(api.ErrReloc, dataAt+0x80)},
		// 7.
		{"no InitSize", drop(dyn.InitSize), of(api.ErrRange)},
		{"Init of no Load", set(dyn.InitArray, hole), of(api.ErrRange)},
		{"Init over a Load's end", set(dyn.InitArray, dataAt+0x3e8, dyn.InitSize, 16), of(api.ErrRange)},
		{"an address of Init", set(dyn.InitArray, dataAt+4), at(api.ErrAlign, dataAt+4)},
		{"a size of Init", set(dyn.InitSize, 12), at(api.ErrAlign, dataAt+0x10)},
		{"no FiniSize", drop(dyn.FiniSize), of(api.ErrRange)},
		{"Fini of no Load", set(dyn.FiniArray, hole), of(api.ErrRange)},
		{"an address of Fini", set(dyn.FiniArray, nextAt+1), at(api.ErrAlign, nextAt+1)},
		{"a size of Fini", set(dyn.FiniSize, 9), at(api.ErrAlign, dataAt+0x20)},
		// Relro.
		{"Relro above High", relro(span.Span{Lo: api.High + 1, Hi: api.High + 1}), at(api.ErrRange, api.High+1)},
		{"Relro of no Load", relro(span.Span{Lo: nextAt, Hi: hole + api.Page}), at(api.ErrRange, nextAt)},
	}
}

// undynamic: a file whose dynamic section is of another kind: its program header is the last of five.
func undynamic(s string) string {
	b, _ := le.With(s, 64+56*4, 7, 4)
	return b
}

// P17.1: each flaw alone, and the one that is looked at first of two.
func TestFlaws(t *testing.T) {
	for _, is := range kinds {
		l := flaws(is)
		for i, x := range l {
			d := base(is)
			x.make(d)
			d.wantFault(t, x.what, x.want)
			for _, y := range l[i+1:] {
				d := base(is)
				y.make(d)
				x.make(d)
				d.wantFault(t, x.what+", "+y.what, x.want)
			}
		}
	}
}

// P17.1: without a hash table, the chapter's example; with both GNU's counts, whatever is wrong with the other one.
func TestTables(t *testing.T) {
	d := base(false)
	d.drop(dyn.Hash)
	d.wantFault(t, "neither", fail.Of(api.ErrNone))
	d = base(true)
	d.set(dyn.Hash, sysvAt)
	d.poke(sysvAt, numbers(4, 1, 4, 2, 4, 1, 4, 0, 4, 0))
	wantSame(t, "both", d.read(t, "both"), whole())
	d.set(dyn.Hash, hole)
	wantSame(t, "both, the other one nowhere", d.read(t, "both"), whole())
	d.set(dyn.GnuHash, hole)
	d.set(dyn.Hash, sysvAt)
	d.wantFault(t, "both, GNU's nowhere", fail.At(api.ErrRange, hole))
	d.drop(dyn.GnuHash, dyn.Rela, dyn.JmpRel)
	if o := d.read(t, "the other one"); len(o.Symbols) != 2 || len(o.Versions) != 2 {
		t.Error("the other one", o)
	}
}

// P17.1: a table may end where its Load does, and no sooner; what a Load has behind it doesn't matter.
func TestTableEnd(t *testing.T) {
	for _, is := range kinds {
		at, n, tag := uint64(sysvAt), uint64(8+4*(2+7)), uint64(dyn.Hash)
		if is {
			at, n, tag = gnuAt, 16+8+4+4*6, dyn.GnuHash
		}
		d := base(is)
		d.loads[1].File = dataEnd - dataAt
		d.poke(dataEnd-n, string(d.bytes[at:at+n]))
		d.set(tag, dataEnd-n)
		wantSame(t, "just so long", d.read(t, "just so long"), whole())
		d.loads[1].Mem--
		d.loads[1].File--
		d.wantFault(t, "cut", fail.Of(api.ErrShort))
	}
}

// many: a draft with so many symbols, none of which has a name or a version.
func many(isGnu bool, n int) *draft {
	d := base(isGnu)
	d.drop(dyn.VerSym)
	clear(d.bytes[symAt:gnuAt])
	if isGnu {
		hash := uint64(gnu.Hash(""))
		d.poke(gnuAt, numbers(4, 1, 4, 1, 4, 1, 4, 0, 8, 0, 4, 1)+strings.Repeat(numbers(4, hash&^1), n-2)+numbers(4, hash|1))
	} else {
		d.poke(sysvAt, numbers(4, 1, 4, uint64(n), 4, 0)+strings.Repeat("\x00", 4*n))
	}
	return d
}

// P17.1: so many symbols as may be, and one more.
func TestMaxSymbols(t *testing.T) {
	for _, is := range kinds {
		o := many(is, api.MaxSymbols).read(t, "most")
		if len(o.Symbols) != 256 || len(o.Versions) != 256 {
			t.Error("most", len(o.Symbols), len(o.Versions))
		}
		many(is, api.MaxSymbols+1).wantFault(t, "one more", fail.Of(api.ErrLimit))
	}
	// Without Chains just those ahead of the first one are counted.
	for first, want := range map[uint64]int{0: 0, 7: 7, 256: 256} {
		d := many(true, 2)
		d.drop(dyn.Rela, dyn.JmpRel)
		d.poke(gnuAt, numbers(4, 1, 4, first, 4, 1, 4, 0, 8, 0, 4, 0))
		if o := d.read(t, "First"); len(o.Symbols) != want {
			t.Error("First", first, len(o.Symbols))
		}
	}
}

// P17.1: no symbols at all, which are looked for in a Load nevertheless.
func TestNoSymbols(t *testing.T) {
	d := many(false, 0)
	d.drop(dyn.Rela, dyn.JmpRel)
	if o := d.read(t, "no Chains"); len(o.Symbols) != 0 || len(o.Versions) != 0 {
		t.Error(o)
	}
	d.set(dyn.SymTab, hole)
	d.wantFault(t, "no symbols of no Load", fail.At(api.ErrRange, hole))
}

// P17.1: the symbols are where SymTab says, at the address 0, too, and may end where a Load does.
func TestSymTab(t *testing.T) {
	for _, at := range []uint64{symAt, dataEnd - 24*7, verNeedAt + 64} {
		d := base(true)
		d.loads[1].File = dataEnd - dataAt
		d.poke(at, string(d.bytes[:24*7]))
		d.set(dyn.SymTab, at)
		if o := d.read(t, "SymTab"); !reflect.DeepEqual(o.Symbols, drafted()) {
			t.Error(at, o.Symbols)
		}
	}
}

// P17.1: names of MaxName bytes, and of one more, of the object, of what it needs, and of symbols.
func TestNames(t *testing.T) {
	for n := api.MaxName - 1; n <= api.MaxName+1; n++ {
		name := strings.Repeat("n", n)
		for _, put := range []func(d *draft){
			func(d *draft) { d.set(dyn.Soname, beyondName) },
			func(d *draft) { d.add(dyn.Needed, beyondName) },
			func(d *draft) { d.poke(symAt+24, le.Put(beyondName, 4)) },
		} {
			d := base(false)
			d.poke(strAt, names+name+"\x00")
			d.set(dyn.StrSize, beyondName+uint64(n)+1)
			put(d)
			o, f := Read(d.file())
			if n > api.MaxName {
				if f.Code != api.ErrName || f.At != beyondName && f.At != 24 {
					t.Error(n, f)
				}
			} else if !f.OK() || o.Soname != name && o.Needed[len(o.Needed)-1] != name && o.Symbols[1].Name != name {
				t.Error(n, f, o)
			}
		}
	}
}

// P17.1: the first Soname counts, and each Needed.
func TestTexts(t *testing.T) {
	d := base(true)
	d.add(dyn.Soname, beyondName)
	d.add(dyn.Needed, nameAt("libb"))
	d.add(dyn.Needed, nameAt("libb")+1)
	want := whole()
	want.Needed = []string{"libb", "libc", "libb", "ibb"}
	wantSame(t, "texts", d.read(t, "texts"), want)
}

// P17.1: where there are no numbers no symbol has a version, but the versions are looked at.
func TestNoNumbers(t *testing.T) {
	d := base(true)
	d.drop(dyn.VerSym)
	// A version with the number 1 would else be that of symbols without a number.
	d.poke(verDefAt+4, le.Put(1, 2))
	want := whole()
	want.Versions = make([]Version, 7)
	wantSame(t, "no numbers", d.read(t, "no numbers"), want)
	d.set(dyn.VerDef, hole)
	d.wantFault(t, "no numbers", fail.At(api.ErrRange, hole))
}

// P17.1: numbers without versions, and with those that a file defines, or needs, alone.
func TestNumbers(t *testing.T) {
	for _, c := range []struct {
		drop []uint64
		v    []Version
	}{
		{[]uint64{dyn.VerDef, dyn.VerNeed}, []Version{2: {Hidden: true}, 6: {Hidden: true}}},
		{[]uint64{dyn.VerNeed}, []Version{2: {Name: "V1", Hidden: true}, 3: {Name: "V2"}, 6: {Hidden: true}}},
		{[]uint64{dyn.VerDef, dyn.VerDefs}, []Version{2: {Hidden: true}, 5: {Name: "C1", File: "libc"}, 6: {Hidden: true}}},
		{[]uint64{dyn.VerDefs, dyn.VerNeeds}, []Version{2: {Hidden: true}, 6: {Hidden: true}}},
	} {
		d := base(false)
		d.drop(c.drop...)
		want := whole()
		want.Versions = c.v
		wantSame(t, "numbers", d.read(t, "numbers"), want)
	}
	d := base(false)
	d.drop(dyn.VerDefs)
	d.set(dyn.VerDef, hole)
	d.wantFault(t, "no count, of no Load", fail.At(api.ErrRange, hole))
}

// P17.1: the numbers may end where a Load does.
func TestNumbersEnd(t *testing.T) {
	d := base(true)
	d.loads[1].File = dataEnd - dataAt
	d.poke(dataEnd-14, string(d.bytes[verSymAt:verSymAt+14]))
	d.set(dyn.VerSym, dataEnd-14)
	wantSame(t, "numbers", d.read(t, "numbers"), whole())
}

// P17.1: versions are read up to the end of their Load, which may have far more bytes than a file: the others are noughts.
func TestFarVersions(t *testing.T) {
	const far = 1 << 20
	draft := func(tag, countTag, count uint64, b string) *draft {
		d := base(true)
		d.loads[2].Mem, d.loads[2].File = far, 0x40
		d.poke(nextAt, b)
		d.set(tag, nextAt)
		d.set(countTag, count)
		return d
	}
	for next, want := range map[uint64]fail.Fault{
		0x40:     fail.At(api.ErrForm, 0x40),
		far - 20: fail.At(api.ErrForm, far-20),
		far - 19: fail.At(api.ErrShort, far-19),
		far:      fail.At(api.ErrShort, far),
	} {
		d := draft(dyn.VerDef, dyn.VerDefs, 2, definition(2, nameAt("V1"), next))
		d.wantFault(t, "the next one", want)
	}
	d := draft(dyn.VerDef, dyn.VerDefs, 1, numbers(2, 1, 2, 0, 2, 3, 2, 1, 4, 0, 4, far-8, 4, 0))
	want := whole()
	want.Versions[2], want.Versions[3] = Version{Hidden: true}, Version{}
	wantSame(t, "its name", d.read(t, "its name"), want)
	d.loads[2].Mem--
	d.wantFault(t, "its name, one byte less", fail.Of(api.ErrShort))
	d = draft(dyn.VerNeed, dyn.VerNeeds, 1, numbers(2, 1, 2, 1, 4, nameAt("libc"), 4, far-16, 4, 0))
	want = whole()
	want.Versions[5] = Version{}
	wantSame(t, "a version", d.read(t, "a version"), want)
	d.loads[2].Mem--
	d.wantFault(t, "a version, one byte less", fail.Of(api.ErrShort))
}

// P17.1: a Load of the greatest size may have tables, too.
func TestGreatLoad(t *testing.T) {
	for _, is := range kinds {
		d := base(is)
		d.loads[2].Mem = 1<<30 - nextAt
		d.set(dyn.VerDef, nextAt)
		d.set(dyn.VerDefs, 0)
		want := whole()
		want.Versions[2], want.Versions[3] = Version{Hidden: true}, Version{}
		wantSame(t, "great", d.read(t, "great"), want)
		d.set(dyn.VerDefs, 1)
		d.wantFault(t, "great", fail.Of(api.ErrForm))
		d.set(dyn.GnuHash, nextAt)
		d.wantFault(t, "great", fail.Of(api.ErrForm))
	}
}

// P17.1: a size without an address tells nothing, and no relocations are as good as none.
func TestSizesAlone(t *testing.T) {
	d := base(false)
	d.drop(dyn.Rela, dyn.JmpRel, dyn.InitArray, dyn.FiniArray)
	d.set(dyn.RelaSize, 5)
	want := whole()
	want.Data, want.Plt, want.Init, want.Fini = nil, nil, span.Span{}, span.Span{}
	wantSame(t, "sizes alone", d.read(t, "sizes alone"), want)
	d = base(false)
	d.set(dyn.RelaSize, 0)
	d.set(dyn.PltSize, 0)
	d.set(dyn.InitSize, 0)
	want = whole()
	want.Data, want.Plt, want.Init = nil, nil, span.Span{Lo: dataAt + 0x10, Hi: dataAt + 0x10}
	wantSame(t, "of no bytes", d.read(t, "of no bytes"), want)
	d.set(dyn.Rela, hole)
	d.wantFault(t, "of no bytes, of no Load", fail.Of(api.ErrRange))
}

// P17.1: a relocation's eight bytes are all of one Load.
func TestRelocationsAt(t *testing.T) {
	for _, c := range []struct {
		at uint64
		e  api.Errno
	}{
		{0, api.OK},
		{tablesEnd - 8, api.OK},
		{tablesEnd, api.ErrRange},
		{dataAt - 8, api.ErrRange},
		{dataAt, api.OK},
		{dataAt + 0x3e8, api.OK},
		{dataAt + 0x3f0, api.ErrRange}, // over the end
		{dataAt + 0x3f8, api.ErrRange}, // on a page of the Load, but behind it
		{nextAt, api.OK},
		{hole - 8, api.OK},
		{hole, api.ErrRange},
		{math.MaxUint64 - 7, api.ErrRange},
	} {
		for _, at := range []uint64{relaAt, pltAt} {
			d := base(true)
			d.poke(at, le.Put(c.at, 8))
			if c.e == api.OK {
				d.read(t, "relocation")
			} else {
				d.wantFault(t, "relocation", fail.At(c.e, c.at))
			}
		}
	}
	// Between two Loads without a page between them only an address within a word would do, and that is told first.
	d := base(true)
	d.loads[1].Mem = nextAt - dataAt
	d.poke(relaAt, le.Put(nextAt-4, 8))
	d.wantFault(t, "in two", fail.Of(api.ErrAlign))
}

// P17.1: of a list's faults those of layer 15 come first, then that of the place, then that of the kind; the list of the data is
// ahead of the slots', and may have each kind.
func TestRelocationsOrder(t *testing.T) {
	word, far := rela.Rela{At: dataAt, Kind: 2, Sym: 2}, rela.Rela{At: hole, Kind: 5}
	none := rela.Rela{At: dataAt + 8, Kind: 6}
	slot := rela.Rela{At: dataAt + 16, Kind: 5}
	for _, c := range []struct {
		data, slots [2]rela.Rela
		want        fail.Fault
	}{
		{[2]rela.Rela{word, slot}, [2]rela.Rela{slot, slot}, fail.Fault{}},
		{[2]rela.Rela{word, slot}, [2]rela.Rela{slot, word}, fail.At(api.ErrReloc, dataAt)},
		{[2]rela.Rela{word, slot}, [2]rela.Rela{word, far}, fail.At(api.ErrRange, hole)},
		{[2]rela.Rela{word, slot}, [2]rela.Rela{far, none}, fail.At(api.ErrReloc, 24)},
		{[2]rela.Rela{word, far}, [2]rela.Rela{none, none}, fail.At(api.ErrRange, hole)},
		{[2]rela.Rela{far, none}, [2]rela.Rela{slot, slot}, fail.At(api.ErrReloc, 24)},
		{[2]rela.Rela{slot, word}, [2]rela.Rela{{At: 8, Kind: 3}, {At: 16, Kind: 4}}, fail.At(api.ErrReloc, 8)},
	} {
		d := base(false)
		d.set(dyn.RelaSize, 48)
		d.poke(relaAt, rela.Put(c.data[0])+rela.Put(c.data[1]))
		d.poke(pltAt, rela.Put(c.slots[0])+rela.Put(c.slots[1]))
		if c.want.OK() {
			d.read(t, "order")
		} else {
			d.wantFault(t, "order", c.want)
		}
	}
}

// P17.1: so many relocations as may be, and one more.
func TestMaxRelas(t *testing.T) {
	for _, tags := range [][3]uint64{{dyn.Rela, dyn.RelaSize, relaAt}, {dyn.JmpRel, dyn.PltSize, pltAt}} {
		d := base(true)
		d.poke(tags[2], strings.Repeat(rela.Put(rela.Rela{At: dataAt, Kind: 5}), 257))
		d.set(tags[1], 24*256)
		if o := d.read(t, "most"); max(len(o.Data), len(o.Plt)) != 256 {
			t.Error(len(o.Data), len(o.Plt))
		}
		d.set(tags[1], 24*257)
		d.wantFault(t, "one more", fail.Of(api.ErrLimit))
	}
}

// P17.1: arrays at the edges of a Load.
func TestArrays(t *testing.T) {
	for _, c := range []struct {
		at, n uint64
		want  fail.Fault
	}{
		{0, 8, fail.Fault{}},
		{dataAt, 0x3f0, fail.Fault{}},
		{dataAt, 0x3f8, fail.Of(api.ErrRange)},
		{dataAt, 0x3f4, fail.At(api.ErrAlign, dataAt)},
		{dataAt + 4, 8, fail.At(api.ErrAlign, dataAt+4)},
		{dataAt + 4, 4, fail.At(api.ErrAlign, dataAt+4)},
		{dataAt + 1, 0, fail.At(api.ErrAlign, dataAt+1)},
		{hole - 8, 8, fail.Fault{}},
		{hole - 8, 16, fail.Of(api.ErrRange)},
		{hole, 0, fail.Of(api.ErrRange)},
		{dataAt, 1 << 62, fail.Of(api.ErrRange)},
		{math.MaxUint64, 8, fail.Of(api.ErrRange)},
	} {
		for i, tags := range [][2]uint64{{dyn.InitArray, dyn.InitSize}, {dyn.FiniArray, dyn.FiniSize}} {
			d := base(true)
			d.set(tags[0], c.at)
			d.set(tags[1], c.n)
			if !c.want.OK() {
				d.wantFault(t, "array", c.want)
				continue
			}
			want := whole()
			*[]*span.Span{&want.Init, &want.Fini}[i] = span.Span{Lo: c.at, Hi: c.at + c.n}
			wantSame(t, "array", d.read(t, "array"), want)
		}
	}
}

// spans from one address on, below another one, in turn.
func spans(l ...uint64) []span.Span {
	var all []span.Span
	for i := 0; i < len(l); i += 2 {
		all = append(all, span.Span{Lo: l[i], Hi: l[i+1]})
	}
	return all
}

// P17.1: Relro, by its pages that lie in a segment wholly.
func TestRelro(t *testing.T) {
	for _, c := range []struct {
		what     string
		segments []span.Span
		want     []span.Span
		fault    fail.Fault
	}{
		{"none", nil, nil, fail.Fault{}},
		{"a page", spans(dataAt, dataAt+256), spans(dataAt, dataAt+256), fail.Fault{}},
		{"a byte less", spans(dataAt, dataAt+255), nil, fail.Fault{}},
		{"a byte later", spans(dataAt+1, dataAt+256), nil, fail.Fault{}},
		{"within a page", spans(dataAt+1, dataAt+255), nil, fail.Fault{}},
		{"of two pages none", spans(dataAt+1, dataAt+511), nil, fail.Fault{}},
		{"cut at both ends", spans(dataAt+1, dataAt+1023), spans(dataAt+256, dataAt+768), fail.Fault{}},
		{"cut to one page", spans(dataAt+255, dataAt+513), spans(dataAt+256, dataAt+512), fail.Fault{}},
		{"of no bytes", spans(dataAt, dataAt), nil, fail.Fault{}},
		{"of no bytes, in no Load", spans(hole, hole), nil, fail.Fault{}},
		{"no page, in no Load", spans(hole+1, hole+511), nil, fail.Fault{}},
		{"the last page, which is the Load's in part", spans(nextAt-256, nextAt), spans(nextAt-256, nextAt), fail.Fault{}},
		{"of two Loads", spans(dataAt, hole), spans(dataAt, hole), fail.Fault{}},
		{"all of the first Load", spans(0, tablesEnd), spans(0, tablesEnd), fail.Fault{}},
		{"a page behind a Load", spans(tablesEnd-256, tablesEnd+256), nil, fail.At(api.ErrRange, tablesEnd-256)},
		{"a page ahead of a Load", spans(dataAt-256, dataAt+256), nil, fail.At(api.ErrRange, dataAt-256)},
		{"over a hole", spans(0, hole), nil, fail.Fault{Code: api.ErrRange}},
		{"some of a page in no Load", spans(nextAt, hole+255), spans(nextAt, hole), fail.Fault{}},
		{"a page in no Load", spans(nextAt+1, hole+256), nil, fail.At(api.ErrRange, nextAt+1)},
		{"two", spans(nextAt, hole, 0, 256), spans(nextAt, hole, 0, 256), fail.Fault{}},
		{"two, one of them empty", spans(nextAt, nextAt+8, 0, 256), spans(0, 256), fail.Fault{}},
		{"two that are the same", spans(0, 256, 0, 256), spans(0, 256, 0, 256), fail.Fault{}},
		{"two, the second one wrong", spans(0, 256, hole, hole+256), nil, fail.At(api.ErrRange, hole)},
		{"two, both wrong", spans(hole, hole+256, api.High+1, api.High+1), nil, fail.At(api.ErrRange, hole)},
		{"at High", spans(api.High, api.High), nil, fail.Fault{}},
		{"at High, no page", spans(api.High, api.High+255), nil, fail.Fault{}},
		{"at High, a page", spans(api.High, api.High+256), nil, fail.At(api.ErrRange, api.High)},
		{"above High", spans(api.High+1, api.High+1), nil, fail.At(api.ErrRange, api.High+1)},
		{"at the end", spans(math.MaxUint64, math.MaxUint64), nil, fail.At(api.ErrRange, math.MaxUint64)},
		{"of High bytes", spans(dataAt, dataAt+api.High), nil, fail.At(api.ErrRange, dataAt)},
		{"of more", spans(dataAt, dataAt+api.High+1), nil, fail.At(api.ErrRange, dataAt)},
		{"of bytes that go round to a page of a Load", spans(dataAt, dataAt-256), nil, fail.At(api.ErrRange, dataAt)},
		{"that goes round to an empty one", spans(dataAt+1, dataAt), nil, fail.At(api.ErrRange, dataAt+1)},
	} {
		d := base(true)
		d.relro(c.segments...)
		if !c.fault.OK() {
			d.wantFault(t, c.what, c.fault)
			continue
		}
		want := whole()
		want.Relro = c.want
		wantSame(t, c.what, d.read(t, c.what), want)
	}
}

// P17.1: Now and Stays, by BindNow and the first Flags1.
func TestFlags(t *testing.T) {
	for bit := range 64 {
		d := base(bit%2 == 0)
		d.set(dyn.Flags1, 1<<bit)
		d.add(dyn.Flags1, math.MaxUint64)
		if o := d.read(t, "a bit"); o.Now != (bit == 0) || o.Stays != (bit == 3) {
			t.Error(bit, o.Now, o.Stays)
		}
		d.set(dyn.Flags1, ^(uint64(1) << bit))
		if o := d.read(t, "all but a bit"); o.Now != (bit != 0) || o.Stays != (bit != 3) {
			t.Error("not", bit, o.Now, o.Stays)
		}
	}
	for _, value := range []uint64{0, 8, math.MaxUint64} {
		d := base(true)
		d.set(dyn.BindNow, value)
		if o := d.read(t, "BindNow"); !o.Now || o.Stays {
			t.Error("BindNow", value, o.Now, o.Stays)
		}
		d.set(dyn.Flags1, 8)
		if o := d.read(t, "BindNow"); !o.Now || !o.Stays {
			t.Error("BindNow and Flags1", value, o.Now, o.Stays)
		}
	}
}

// P17.1: two answers share nothing, and one isn't changed by the other.
func TestAlone(t *testing.T) {
	s := base(true).file()
	a, _ := Read(s)
	b, _ := Read(s)
	if a == b {
		t.Fatal("the same one")
	}
	a.Needed[0], a.Symbols[1].Name, a.Versions[1].Name, a.Data[0].At, a.Plt[0].At, a.Relro[0].Lo = "x", "x", "x", 1, 1, 1
	a.Image.Segments[0].Addr = 1
	wantSame(t, "alone", b, whole())
	if b.Image.Segments[0].Addr != 0 {
		t.Error("segments")
	}
}
