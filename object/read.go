package object

import (
	"math"

	"turnbuckle/api"
	"turnbuckle/dyn"
	"turnbuckle/fail"
	"turnbuckle/head"
	"turnbuckle/rela"
	"turnbuckle/span"
	"turnbuckle/sym"
	"turnbuckle/vers"
)

const (
	symbolBytes = 24
	numberBytes = 2 // of the number of a symbol's version
	wordBytes   = 8 // that a relocation is of, or that tells what is run
)

// The bits of the value of Flags1 that matter.
const (
	nowFlag   = 1
	staysFlag = 8
)

// reader of a file, part by part, into an object.
type reader struct {
	*Object
	file    string
	entries dyn.Table // of the dynamic section
	names   string    // the string table
}

// image, and the dynamic section, by which all other parts are found.
func (r *reader) image() fail.Fault {
	var f fail.Fault
	if r.Image, f = head.Read(r.file); !f.OK() {
		return f
	}
	r.entries, f = dyn.Read(r.Image)
	return f
}

// hash table, which tells how many symbols there are.
func (r *reader) hash() fail.Fault {
	read := readGnu
	addr, ok := r.entries.Get(dyn.GnuHash)
	if !ok {
		read = readSysv
		addr, ok = r.entries.Get(dyn.Hash)
	}
	if !ok {
		return fail.Of(api.ErrNone)
	}
	// Either table of MaxSymbols has less bytes than a file may have, and a Load may have far more.
	b, ok := r.rest(addr, api.MaxFile)
	if !ok {
		return fail.At(api.ErrRange, addr)
	}
	var f fail.Fault
	r.table, f = read(b)
	return f
}

// symbols, and the string table that has their names.
func (r *reader) symbols() fail.Fault {
	addr, ok := r.entries.Get(dyn.SymTab)
	if !ok {
		return fail.Of(api.ErrNone)
	}
	b, ok := r.Image.At(addr, symbolBytes*r.count())
	if !ok {
		return fail.At(api.ErrRange, addr)
	}
	if _, ok = r.entries.Get(dyn.StrTab); !ok {
		return fail.Of(api.ErrName)
	}
	if r.names, ok = r.entries.Span(r.Image, dyn.StrTab, dyn.StrSize); !ok {
		return fail.Of(api.ErrName)
	}
	var f fail.Fault
	r.Symbols, f = sym.Read(b, r.names)
	return f
}

// texts: the file's own name, and those of the files that it needs.
func (r *reader) texts() fail.Fault {
	if at, ok := r.entries.Get(dyn.Soname); ok {
		name, f := r.text(at)
		if !f.OK() {
			return f
		}
		r.Soname = name
	}
	for at := range r.entries.All(dyn.Needed) {
		name, f := r.text(at)
		if !f.OK() {
			return f
		}
		r.Needed = append(r.Needed, name)
	}
	return fail.Fault{}
}

// text at a place of the string table, which may not be empty.
func (r *reader) text(at uint64) (string, fail.Fault) {
	name, _ := r.entries.Text(r.Image, at)
	if name == "" {
		return "", fail.At(api.ErrName, at)
	}
	return name, fail.Fault{}
}

// versions of the symbols.
func (r *reader) versions() fail.Fault {
	var t vers.Table
	addr, numbered := r.entries.Get(dyn.VerSym)
	if numbered {
		b, ok := r.Image.At(addr, numberBytes*r.count())
		if !ok {
			return fail.At(api.ErrRange, addr)
		}
		t.Numbers = vers.Numbers(b)
	}
	var f fail.Fault
	if t.Defs, f = chained(r, dyn.VerDef, dyn.VerDefs, vers.Defs); !f.OK() {
		return f
	}
	if t.Needs, f = chained(r, dyn.VerNeed, dyn.VerNeeds, vers.Needs); !f.OK() {
		return f
	}
	r.Versions = make([]Version, len(r.Symbols))
	// Without numbers a version that has the number 1 would be that of all symbols.
	if numbered {
		for i := range r.Versions {
			name, file, hidden := t.Of(i)
			r.Versions[i] = Version{Name: name, File: file, Hidden: hidden}
		}
	}
	return fail.Fault{}
}

// chained: what is read from the address on that a tag tells, of so many entries as another one tells.
func chained[T any](r *reader, tag, countTag uint64, read func(b, names string, n int) ([]T, fail.Fault)) ([]T, fail.Fault) {
	addr, ok := r.entries.Get(tag)
	if !ok {
		return nil, fail.Fault{}
	}
	n, _ := r.entries.Get(countTag)
	var l []T
	var f fail.Fault
	// A Load may have far more bytes than its file, noughts all of them, which are made only where without them an entry isn't
	// there: no other fault hangs on what is behind.
	for _, most := range [...]uint64{api.MaxFile, math.MaxUint64} {
		b, ok := r.rest(addr, most)
		if !ok {
			return nil, fail.At(api.ErrRange, addr)
		}
		if l, f = read(b, r.names, int(min(n, math.MaxInt32))); f.Code != api.ErrShort {
			break
		}
	}
	return l, f
}

// relocations of the data, and of the slots.
func (r *reader) relocations() fail.Fault {
	var f fail.Fault
	if r.Data, f = r.relas(dyn.Rela, dyn.RelaSize); !f.OK() {
		return f
	}
	if r.Plt, f = r.relas(dyn.JmpRel, dyn.PltSize); !f.OK() {
		return f
	}
	for _, x := range r.Plt {
		if x.Kind != rela.Slot {
			return fail.At(api.ErrReloc, x.At)
		}
	}
	return fail.Fault{}
}

// relas that a tag and its size's tag tell.
func (r *reader) relas(tag, sizeTag uint64) ([]rela.Rela, fail.Fault) {
	b, ok := r.entries.Span(r.Image, tag, sizeTag)
	if !ok {
		return nil, fail.Of(api.ErrRange)
	}
	l, f := rela.Read(b, len(r.Symbols))
	if !f.OK() {
		return nil, f
	}
	for _, x := range l {
		if _, ok := r.Image.At(x.At, wordBytes); !ok {
			return nil, fail.At(api.ErrRange, x.At)
		}
	}
	return l, fail.Fault{}
}

// arrays of what is run first, and last.
func (r *reader) arrays() fail.Fault {
	var f fail.Fault
	if r.Init, f = r.array(dyn.InitArray, dyn.InitSize); !f.OK() {
		return f
	}
	r.Fini, f = r.array(dyn.FiniArray, dyn.FiniSize)
	return f
}

// array that a tag and its size's tag tell; of one that isn't there address and size are 0.
func (r *reader) array(tag, sizeTag uint64) (span.Span, fail.Fault) {
	b, ok := r.entries.Span(r.Image, tag, sizeTag)
	if !ok {
		return span.Span{}, fail.Of(api.ErrRange)
	}
	addr, _ := r.entries.Get(tag)
	n := uint64(len(b))
	if addr%wordBytes != 0 || n%wordBytes != 0 {
		return span.Span{}, fail.At(api.ErrAlign, addr)
	}
	return span.Span{Lo: addr, Hi: addr + n}, fail.Fault{}
}

// relro: the pages that may not be stored any more once the object is loaded.
func (r *reader) relro() fail.Fault {
	loads := r.pages()
	for g := range r.Image.Of(head.Relro) {
		// Asked ahead of their sum, which may go beyond 2^64.
		if g.Addr > api.High || g.Mem > api.High {
			return fail.At(api.ErrRange, g.Addr)
		}
		s := span.Span{Lo: pageUp(g.Addr), Hi: pageDown(g.Addr + g.Mem)}
		if !loads.Covers(s) {
			return fail.At(api.ErrRange, g.Addr)
		}
		if s.Len() > 0 {
			r.Relro = append(r.Relro, s)
		}
	}
	return fail.Fault{}
}

// flags: how the object is to be loaded.
func (r *reader) flags() {
	_, now := r.entries.Get(dyn.BindNow)
	flags, _ := r.entries.Get(dyn.Flags1)
	r.Now = now || flags&nowFlag != 0
	r.Stays = flags&staysFlag != 0
}

// count of the symbols. (Neither table's Read tells one of more than MaxSymbols.)
func (r *reader) count() uint64 { return uint64(r.table.symbols()) }

// rest of the Load that has an address, from there on, but no more bytes than most.
func (r *reader) rest(addr, most uint64) (string, bool) {
	for g := range r.Image.Of(head.Load) {
		if s := (span.Span{Lo: g.Addr, Hi: g.Addr + g.Mem}); s.Has(addr) {
			return r.Image.At(addr, min(s.Hi-addr, most))
		}
	}
	return "", false
}

// pages of all Loads.
func (r *reader) pages() *span.Set {
	var all span.Set
	for g := range r.Image.Of(head.Load) {
		// None of these is there yet: a Load begins behind the pages of those ahead.
		all.Add(span.Span{Lo: g.Addr, Hi: pageUp(g.Addr + g.Mem)})
	}
	return &all
}

// pageUp: the first page from an address on.
func pageUp(at uint64) uint64 { return pageDown(at + api.Page - 1) }

// pageDown: the page that has an address.
func pageDown(at uint64) uint64 { return at / api.Page * api.Page }
