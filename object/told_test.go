package object

import (
	"turnbuckle/api"
	"turnbuckle/dyn"
	"turnbuckle/fail"
	"turnbuckle/gnu"
	"turnbuckle/head"
	"turnbuckle/rela"
	"turnbuckle/span"
	"turnbuckle/sym"
	"turnbuckle/sysv"
	"turnbuckle/vers"
)

// words of the chapter, said of a file one after the other, up to the first fault.
type words struct {
	Object
	dynamic dyn.Table
	names   string
	count   int
	fault   fail.Fault
}

// told of a file by the chapter's words.
func told(s string) (Object, fail.Fault) {
	var w words
	if w.Image, w.fault = head.Read(s); w.fault.OK() {
		w.dynamic, w.fault = dyn.Read(w.Image)
	}
	for _, say := range []func(*words){(*words).sayTable, (*words).saySymbols, (*words).sayTexts, (*words).sayVersions,
		(*words).sayRelocations, (*words).sayArrays, (*words).sayRelro} {
		if !w.fault.OK() {
			return Object{}, w.fault
		}
		say(&w)
	}
	w.Now = w.is(dyn.BindNow) || w.value(dyn.Flags1)%2 == 1
	w.Stays = w.value(dyn.Flags1)/8%2 == 1
	return w.Object, w.fault
}

// must be so, else there is a fault, if there is none yet.
func (w *words) must(ok bool, e api.Errno, at uint64) bool {
	if !ok && w.fault.OK() {
		w.fault = fail.At(e, at)
	}
	return ok
}

func (w *words) is(tag uint64) bool {
	_, ok := w.dynamic.Get(tag)
	return ok
}

func (w *words) value(tag uint64) uint64 {
	n, _ := w.dynamic.Get(tag)
	return n
}

// toEnd: all bytes from the address that a tag tells up to the end of its Load.
func (w *words) toEnd(tag uint64) (string, bool) {
	addr := w.value(tag)
	for _, g := range w.Image.Segments {
		if g.Kind == head.Load && addr >= g.Addr && addr < g.Addr+g.Mem {
			return w.Image.At(addr, g.Addr+g.Mem-addr)
		}
	}
	return "", w.must(false, api.ErrRange, addr)
}

func (w *words) sayTable() {
	switch {
	case w.is(dyn.GnuHash):
		if b, ok := w.toEnd(dyn.GnuHash); ok {
			x, f := gnu.Read(b)
			w.table, w.count, w.fault = gnuTable{x}, x.Symbols(), f
		}
	case w.is(dyn.Hash):
		if b, ok := w.toEnd(dyn.Hash); ok {
			x, f := sysv.Read(b)
			w.table, w.count, w.fault = sysvTable{x}, len(x.Chains), f
		}
	default:
		w.must(false, api.ErrNone, 0)
	}
	w.must(w.count <= api.MaxSymbols, api.ErrLimit, 0)
}

func (w *words) saySymbols() {
	if !w.must(w.is(dyn.SymTab), api.ErrNone, 0) {
		return
	}
	at := w.value(dyn.SymTab)
	b, ok := w.Image.At(at, 24*uint64(w.count))
	if !w.must(ok, api.ErrRange, at) {
		return
	}
	w.names, ok = w.dynamic.Span(w.Image, dyn.StrTab, dyn.StrSize)
	if w.must(ok && w.is(dyn.StrTab), api.ErrName, 0) {
		w.Symbols, w.fault = sym.Read(b, w.names)
	}
}

func (w *words) sayTexts() {
	text := func(at uint64) string {
		name, ok := w.dynamic.Text(w.Image, at)
		w.must(ok && name != "", api.ErrName, at)
		return name
	}
	if w.is(dyn.Soname) {
		w.Soname = text(w.value(dyn.Soname))
	}
	for at := range w.dynamic.All(dyn.Needed) {
		w.Needed = append(w.Needed, text(at))
	}
}

func (w *words) sayVersions() {
	var v vers.Table
	if at := w.value(dyn.VerSym); w.is(dyn.VerSym) {
		b, ok := w.Image.At(at, 2*uint64(w.count))
		w.must(ok, api.ErrRange, at)
		v.Numbers = vers.Numbers(b)
	}
	if w.fault.OK() && w.is(dyn.VerDef) {
		if b, ok := w.toEnd(dyn.VerDef); ok {
			v.Defs, w.fault = vers.Defs(b, w.names, int(w.value(dyn.VerDefs)))
		}
	}
	if w.fault.OK() && w.is(dyn.VerNeed) {
		if b, ok := w.toEnd(dyn.VerNeed); ok {
			v.Needs, w.fault = vers.Needs(b, w.names, int(w.value(dyn.VerNeeds)))
		}
	}
	for k := range w.count {
		var x Version
		if w.is(dyn.VerSym) {
			x.Name, x.File, x.Hidden = v.Of(k)
		}
		w.Versions = append(w.Versions, x)
	}
}

func (w *words) sayRelocations() {
	read := func(tag, size uint64) []rela.Rela {
		b, ok := w.dynamic.Span(w.Image, tag, size)
		if !w.must(ok, api.ErrRange, 0) || !w.fault.OK() {
			return nil
		}
		l, f := rela.Read(b, w.count)
		w.fault = f
		for _, x := range l {
			_, ok := w.Image.At(x.At, 8)
			w.must(ok, api.ErrRange, x.At)
		}
		return l
	}
	w.Data = read(dyn.Rela, dyn.RelaSize)
	w.Plt = read(dyn.JmpRel, dyn.PltSize)
	for _, x := range w.Plt {
		w.must(x.Kind == rela.Slot, api.ErrReloc, x.At)
	}
}

func (w *words) sayArrays() {
	read := func(tag, size uint64) span.Span {
		if !w.is(tag) {
			return span.Span{}
		}
		at, n := w.value(tag), w.value(size)
		_, ok := w.dynamic.Span(w.Image, tag, size)
		w.must(ok, api.ErrRange, 0)
		w.must(at%8 == 0 && n%8 == 0, api.ErrAlign, at)
		return span.Span{Lo: at, Hi: at + n}
	}
	w.Init = read(dyn.InitArray, dyn.InitSize)
	w.Fini = read(dyn.FiniArray, dyn.FiniSize)
}

// sayRelro page by page.
func (w *words) sayRelro() {
	for g := range w.Image.Of(head.Relro) {
		if !w.must(g.Addr <= api.High && g.Mem <= api.High, api.ErrRange, g.Addr) {
			return
		}
		var pages []uint64
		for page := g.Addr &^ 255; page+256 <= g.Addr+g.Mem; page += 256 {
			if page >= g.Addr {
				_, ok := w.Image.Perm(page)
				w.must(ok, api.ErrRange, g.Addr)
				pages = append(pages, page)
			}
		}
		if len(pages) > 0 {
			w.Relro = append(w.Relro, span.Span{Lo: pages[0], Hi: pages[len(pages)-1] + 256})
		}
	}
}
