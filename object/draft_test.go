package object

import (
	"reflect"
	"slices"
	"strings"
	"testing"

	"turnbuckle/dyn"
	"turnbuckle/fail"
	"turnbuckle/gnu"
	"turnbuckle/head"
	"turnbuckle/le"
	"turnbuckle/rela"
	"turnbuckle/span"
	"turnbuckle/sym"
	"turnbuckle/sysv"
)

// Where a draft has its parts. The first Load has the tables and the dynamic section; the second one ends within its last page,
// and within a word; the third one begins with the page behind that; behind it nothing is any Load's.
const (
	symAt     = 0
	gnuAt     = 0x1900
	sysvAt    = 0x2a00
	strAt     = 0x3300
	verSymAt  = 0x3a00
	verDefAt  = 0x3d00
	verNeedAt = 0x3e00
	relaAt    = 0x4000
	pltAt     = 0x5900
	dynAt     = 0x7200
	tablesEnd = 0x7700
	dataAt    = 0x8000
	dataEnd   = 0x83f4
	nextAt    = 0x8400
	hole      = 0x8500
)

// draft of a file, which a test may change.
type draft struct {
	bytes   []byte // from the address 0 on
	loads   []head.Segment
	others  []head.Segment
	entries []dyn.Entry
	open    bool                // no entry ends the dynamic section
	after   func(string) string // what becomes of the file in the end
}

// The texts of a draft's string table; between two of them stands an empty one.
const (
	names      = "\x00liba\x00libb\x00libc\x00own\x00f\x00g\x00puts\x00h\x00V1\x00V2\x00C1\x00\x00"
	emptyName  = uint64(len(names)) - 1
	beyondName = uint64(len(names))
)

// nameAt: where a text of a draft's string table begins.
func nameAt(name string) uint64 { return uint64(strings.Index(names, "\x00"+name+"\x00") + 1) }

// drafted: the symbols of a draft.
func drafted() []sym.Symbol {
	return []sym.Symbol{
		{},
		{Name: "own", Defined: true, Value: 4},
		{Name: "f", Bind: 1, Kind: 2, Defined: true, Value: dataAt, Size: 8},
		{Name: "f", Bind: 1, Defined: true, Value: dataAt + 8},
		{Name: "g", Bind: 2, Vis: 3, Defined: true, Value: dataAt + 16},
		{Name: "puts", Bind: 1},
		{Name: "h", Bind: 1, Vis: 2, Defined: true, Value: 1 << 63},
	}
}

// draftedData: the relocations of a draft's data, and draftedSlots: of its slots.
func draftedData() []rela.Rela {
	return []rela.Rela{{At: dataAt, Kind: 3, Add: 4}, {At: nextAt, Kind: 2, Sym: 2, Add: 1}, {At: dataAt + 0x3e8, Kind: 4, Sym: 5}, {At: 8, Kind: 5, Sym: 6}}
}

func draftedSlots() []rela.Rela {
	return []rela.Rela{{At: dataAt + 0x80, Kind: 5, Sym: 5}, {At: hole - 8, Kind: 5, Sym: 2}}
}

// base: a draft of a file with something of all, with GNU's hash table or System V's.
func base(isGnu bool) *draft {
	d := &draft{
		bytes: make([]byte, hole),
		loads: []head.Segment{
			{Kind: head.Load, Perm: 4, Addr: 0, File: tablesEnd, Mem: tablesEnd},
			{Kind: head.Load, Perm: 6, Addr: dataAt, File: 0x200, Mem: dataEnd - dataAt},
			{Kind: head.Load, Perm: 6, Addr: nextAt, Mem: hole - nextAt},
		},
		others: []head.Segment{{Kind: head.Relro, Addr: dataAt, Mem: 0x200}},
	}
	var all []string
	for i, s := range drafted() {
		d.poke(symAt+24*uint64(i), sym.Put(s, uint32(nameAt(s.Name))))
		all = append(all, s.Name)
	}
	d.set(dyn.SymTab, symAt)
	x, _ := gnu.Build(all[1:], 1, 1, 1, 6)
	y, _ := sysv.Build(all, 2)
	d.poke(gnuAt, x.Put())
	d.poke(sysvAt, y.Put())
	if isGnu {
		d.set(dyn.GnuHash, gnuAt)
	} else {
		d.set(dyn.Hash, sysvAt)
	}
	d.poke(strAt, names)
	d.set(dyn.StrTab, strAt)
	d.set(dyn.StrSize, uint64(len(names)))
	d.set(dyn.Soname, nameAt("liba"))
	d.set(dyn.Needed, nameAt("libb"))
	d.add(dyn.Needed, nameAt("libc"))
	d.version()
	for i, x := range draftedData() {
		d.poke(relaAt+24*uint64(i), rela.Put(x))
	}
	d.set(dyn.Rela, relaAt)
	d.set(dyn.RelaSize, 24*4)
	for i, x := range draftedSlots() {
		d.poke(pltAt+24*uint64(i), rela.Put(x))
	}
	d.set(dyn.JmpRel, pltAt)
	d.set(dyn.PltSize, 24*2)
	d.set(dyn.InitArray, dataAt+0x10)
	d.set(dyn.InitSize, 16)
	d.set(dyn.FiniArray, dataAt+0x20)
	d.set(dyn.FiniSize, 8)
	return d
}

// version a draft: it defines V1 and V2, and needs C1 of libc.
func (d *draft) version() {
	for i, n := range []uint64{1, 1, 0x8002, 3, 1, 4, 0x8001} {
		d.poke(verSymAt+2*uint64(i), le.Put(n, 2))
	}
	d.set(dyn.VerSym, verSymAt)
	d.poke(verDefAt, definition(2, nameAt("V1"), 28)+definition(3, nameAt("V2"), 0))
	d.set(dyn.VerDef, verDefAt)
	d.set(dyn.VerDefs, 2)
	d.poke(verNeedAt, numbers(2, 1, 2, 1, 4, nameAt("libc"), 4, 16, 4, 0)+numbers(4, 0, 2, 0, 2, 4, 4, nameAt("C1"), 4, 0))
	d.set(dyn.VerNeed, verNeedAt)
	d.set(dyn.VerNeeds, 1)
}

// definition of a version: its number, where its name begins, how far the next one is.
func definition(number, name, next uint64) string {
	return numbers(2, 1, 2, 0, 2, number, 2, 1, 4, 0, 4, 20, 4, next) + numbers(4, name, 4, 0)
}

// numbers in bytes: how many, and which number, in turn.
func numbers(l ...uint64) string {
	var b string
	for i := 0; i < len(l); i += 2 {
		b += le.Put(l[i+1], int(l[i]))
	}
	return b
}

// poke bytes at an address.
func (d *draft) poke(at uint64, b string) { copy(d.bytes[at:], b) }

// set the value of a tag, which is there once from then on.
func (d *draft) set(tag, value uint64) {
	d.drop(tag)
	d.add(tag, value)
}

// add an entry.
func (d *draft) add(tag, value uint64) {
	d.entries = append(d.entries, dyn.Entry{Tag: tag, Value: value})
}

// drop all entries of some tags.
func (d *draft) drop(tags ...uint64) {
	d.entries = slices.DeleteFunc(d.entries, func(e dyn.Entry) bool { return slices.Contains(tags, e.Tag) })
}

// relro: a draft's pages that are to be sealed, in these segments alone.
func (d *draft) relro(l ...span.Span) {
	d.others = nil
	for _, s := range l {
		d.others = append(d.others, head.Segment{Kind: head.Relro, Addr: s.Lo, Mem: s.Hi - s.Lo})
	}
}

// file of a draft.
func (d *draft) file() string {
	at := uint64(dynAt)
	for _, e := range d.entries {
		d.poke(at, numbers(8, e.Tag, 8, e.Value))
		at += 16
	}
	if !d.open {
		d.poke(at, strings.Repeat("\x00", 16))
		at += 16
	}
	segments := slices.Concat(d.loads, d.others, []head.Segment{{Kind: head.Dynamic, Addr: dynAt, Mem: at - dynAt}})
	b := "\x7fELF\x02\x01\x01" + strings.Repeat("\x00", 9) + numbers(2, 3, 2, 243, 4, 1, 8, 0, 8, 64, 8, 0, 4, 0, 2, 64, 2, 56, 2, uint64(len(segments)), 6, 0)
	var bytes string
	off := uint64(64 + 56*len(segments))
	for _, g := range segments {
		b += numbers(4, uint64(g.Kind), 4, uint64(g.Perm), 8, off, 8, g.Addr, 8, 0, 8, g.File, 8, g.Mem, 8, 0)
		bytes += string(d.bytes[g.Addr*min(g.File, 1):][:g.File])
		off += g.File
	}
	if d.after != nil {
		return d.after(b + bytes)
	}
	return b + bytes
}

// read a draft's file, which may be read.
func (d *draft) read(t testing.TB, what string) *Object {
	t.Helper()
	o, f := Read(d.file())
	if f != (fail.Fault{}) || o == nil {
		t.Fatalf("%s: %s", what, f.Text())
	}
	return o
}

// wantFault: a draft's file is refused.
func (d *draft) wantFault(t *testing.T, what string, want fail.Fault) {
	t.Helper()
	if o, f := Read(d.file()); f != want || o != nil {
		t.Errorf("%s: %q, not %q; %v", what, f.Text(), want.Text(), o)
	}
}

// wantSame: an object is as another one, but for its image and its table.
func wantSame(t testing.TB, what string, got *Object, want Object) {
	t.Helper()
	x, y := *got, want
	for _, o := range []*Object{&x, &y} {
		o.Image, o.table = head.Image{}, nil
		// A list without elements may be nil or empty.
		o.Needed, o.Symbols, o.Versions = append([]string{}, o.Needed...), append([]sym.Symbol{}, o.Symbols...), append([]Version{}, o.Versions...)
		o.Data, o.Plt, o.Relro = append([]rela.Rela{}, o.Data...), append([]rela.Rela{}, o.Plt...), append([]span.Span{}, o.Relro...)
	}
	if !reflect.DeepEqual(x, y) {
		t.Errorf("%s: got\n%+v\nnot\n%+v", what, x, y)
	}
}

// walked: the symbols that a walk comes by.
func walked(o *Object, name string) []int { return slices.Collect(o.Walk(name)) }
