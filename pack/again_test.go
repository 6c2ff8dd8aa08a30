package pack

import (
	"maps"
	"slices"
	"strings"
	"testing"

	"turnbuckle/api"
	"turnbuckle/dyn"
	"turnbuckle/gnu"
	"turnbuckle/head"
	"turnbuckle/inst"
	"turnbuckle/le"
	"turnbuckle/rela"
	"turnbuckle/sym"
	"turnbuckle/sysv"
	"turnbuckle/vers"
)

// again is a file that was built, as layers 9 and 10 read it.
type again struct {
	t     testing.TB
	spec  Spec
	file  string
	plan  Plan
	image head.Image
	table dyn.Table
}

// built: the file of a spec, which is held against the chapter's words, part by part.
func built(t testing.TB, s Spec) again {
	t.Helper()
	b, p, e := Build(s)
	if e != api.OK {
		t.Fatalf("%+v: %d", s, e)
	}
	i, f := head.Read(b)
	if !f.OK() {
		t.Fatalf("%+v: head: %s", s, f.Text())
	}
	d, f := dyn.Read(i)
	if !f.OK() {
		t.Fatalf("%+v: dyn: %s", s, f.Text())
	}
	a := again{t, s, b, p, i, d}
	a.wantHeader()
	a.wantPlan()
	a.wantLoads()
	a.wantTags()
	a.wantTexts()
	a.wantSymbols()
	a.wantHash()
	a.wantVersions()
	a.wantRelocations()
	a.wantStubs()
	return a
}

// fail with what is wrong, and the spec.
func (a again) fail(what string, l ...any) {
	a.t.Helper()
	a.t.Fatalf("%s: %+v\nof %+v\nat %+v", what, l, a.spec, a.plan)
}

// up to the next page.
func up(at uint64) uint64 {
	for at%256 != 0 {
		at++
	}
	return at
}

// size of bytes.
func size(s string) uint64 { return uint64(len(s)) }

// bytes of the image.
func (a again) bytes(at, n uint64) string {
	a.t.Helper()
	b, ok := a.image.At(at, n)
	if !ok {
		a.fail("not in the image", at, n)
	}
	return b
}

// value of a tag that is there.
func (a again) value(tag uint64) uint64 {
	a.t.Helper()
	n, ok := a.table.Get(tag)
	if !ok {
		a.fail("no tag", tag)
	}
	return n
}

// toEnd: the bytes from an address on to the end of its Load.
func (a again) toEnd(at uint64) string {
	a.t.Helper()
	for g := range a.image.Of(head.Load) {
		if at >= g.Addr && at < g.Addr+g.Mem {
			return a.bytes(at, g.Addr+g.Mem-at)
		}
	}
	a.fail("of no Load", at)
	return ""
}

// wantHeader: the header is that of a file for RISC-V, with 0 for what doesn't matter, and the program headers are behind it.
func (a again) wantHeader() {
	a.t.Helper()
	want := "\x7fELF\x02\x01\x01" + strings.Repeat("\x00", 9) + "\x03\x00\xf3\x00\x01\x00\x00\x00" + strings.Repeat("\x00", 8) +
		"\x40\x00\x00\x00\x00\x00\x00\x00" + strings.Repeat("\x00", 12) + "\x40\x00\x38\x00" +
		string(rune(len(a.image.Segments))) + strings.Repeat("\x00", 7)
	if a.file[:64] != want {
		a.fail("header", a.file[:64])
	}
}

// P16.1: each part is where it begins, or would begin.
func (a again) wantPlan() {
	a.t.Helper()
	s, p := a.spec, a.plan
	code := up(a.image.Segments[0].Mem)
	stubs := code + size(s.Code)
	arrays := up(stubs + 12*uint64(len(s.Slots)))
	slots := up(arrays + 8*uint64(len(s.Init)+len(s.Fini)) + 16*uint64(len(a.table)+1))
	data := slots + 8*uint64(len(s.Slots))
	want := Plan{Code: code, Stubs: stubs, Arrays: arrays, Slots: slots, Data: data}
	got := p
	got.Index = nil
	if got.Code != want.Code || got.Stubs != want.Stubs || got.Arrays != want.Arrays || got.Slots != want.Slots || got.Data != want.Data {
		a.fail("plan", got, want)
	}
}

// P16.2: the Loads with bytes, what may be done with their pages, what of them is Relro, and where the file ends.
func (a again) wantLoads() {
	a.t.Helper()
	s, p := a.spec, a.plan
	first := slices.Collect(a.image.Of(head.Load))[0]
	dynamic := 16 * uint64(len(a.table)+1)
	arrays := 8 * uint64(len(s.Init)+len(s.Fini))
	slots := uint64(len(s.Slots))
	want := []head.Segment{{Perm: 4, Addr: 0, Mem: first.Mem}}
	if n := size(s.Code) + 12*slots; n > 0 {
		want = append(want, head.Segment{Perm: 5, Addr: p.Code, Mem: n})
	}
	want = append(want, head.Segment{Perm: 6, Addr: p.Arrays, Mem: arrays + dynamic})
	if n := 8*slots + size(s.Data); n > 0 {
		want = append(want, head.Segment{Perm: 6, Addr: p.Slots, Mem: n})
	}
	var got []head.Segment
	for g := range a.image.Of(head.Load) {
		got = append(got, head.Segment{Perm: g.Perm, Addr: g.Addr, Mem: g.Mem})
	}
	if !slices.Equal(got, want) {
		a.fail("Loads", got, want)
	}
	a.wantPlaces()
	for page := uint64(0); page < uint64(a.image.Pages()+2)*256; page += 256 {
		a.wantPage(page, want)
	}
	if l := slices.Collect(a.image.Of(head.Dynamic)); len(l) != 1 || l[0].Addr != p.Arrays+arrays || l[0].Mem != dynamic {
		a.fail("Dynamic", l)
	}
	if l := slices.Collect(a.image.Of(head.Relro)); len(l) != 1 || len(a.image.Segments) != len(want)+2 {
		a.fail("segments", a.image.Segments)
	}
}

// wantPlaces: each Load is all in the file, behind the headers and the Loads ahead of it, with noughts between; each segment's place
// there is alike its address, modulo a page; the file ends where the last Load's bytes do.
func (a again) wantPlaces() {
	a.t.Helper()
	end := 64 + 56*uint64(len(a.image.Segments))
	for g := range a.image.Of(head.Load) {
		if g.File != g.Mem || g.Off < end {
			a.fail("place in the file", g, end)
		}
		if strings.Trim(a.file[end:g.Off], "\x00") != "" {
			a.fail("ahead of a Load", g, a.file[end:g.Off])
		}
		end = g.Off + g.File
	}
	if end != size(a.file) {
		a.fail("end", end, len(a.file))
	}
	for _, g := range a.image.Segments {
		if g.Off%256 != g.Addr%256 {
			a.fail("not alike", g)
		}
	}
}

// wantPage: what may be done with a page is what its Load says, and just the pages of the third one are Relro.
func (a again) wantPage(page uint64, loads []head.Segment) {
	a.t.Helper()
	perm, has, sealed := 0, false, false
	for _, g := range loads {
		if page >= g.Addr && page < up(g.Addr+g.Mem) {
			perm, has, sealed = g.Perm, true, g.Addr == a.plan.Arrays && g.Perm == 6
		}
	}
	if got, ok := a.image.Perm(page); got != perm || ok != has {
		a.fail("page", page, got, ok)
	}
	relro := slices.Collect(a.image.Of(head.Relro))[0]
	if (page >= up(relro.Addr) && page+256 <= relro.Addr+relro.Mem) != sealed {
		a.fail("Relro", page, relro)
	}
}

// wantedTags: the tags that the file is to have, each as often as it is to be there.
func (a again) wantedTags() []uint64 {
	s := a.spec
	l := []uint64{dyn.SymTab, dyn.StrTab, dyn.StrSize}
	add := func(is bool, tags ...uint64) {
		if is {
			l = append(l, tags...)
		}
	}
	add(s.Gnu, dyn.GnuHash)
	add(!s.Gnu, dyn.Hash)
	add(s.Soname != "", dyn.Soname)
	for range s.Needed {
		add(true, dyn.Needed)
	}
	add(s.Now, dyn.BindNow)
	add(s.Stays, dyn.Flags1)
	add(len(s.Init) > 0, dyn.InitArray, dyn.InitSize)
	add(len(s.Fini) > 0, dyn.FiniArray, dyn.FiniSize)
	add(len(s.Init)+len(s.Fini)+len(s.Moves) > 0, dyn.Rela, dyn.RelaSize)
	add(len(s.Slots) > 0, dyn.JmpRel, dyn.PltSize)
	has := func(is func(Symbol) bool) bool { return slices.ContainsFunc(s.Symbols, is) }
	add(has(func(x Symbol) bool { return x.Version != "" || x.Hidden }), dyn.VerSym)
	add(has(func(x Symbol) bool { return x.Version != "" && x.Where != 0 }), dyn.VerDef, dyn.VerDefs)
	add(has(func(x Symbol) bool { return x.Version != "" && x.Where == 0 }), dyn.VerNeed, dyn.VerNeeds)
	slices.Sort(l)
	return l
}

// P16.2: just the tags that are to be there, and what those tell that aren't of tables.
func (a again) wantTags() {
	a.t.Helper()
	s := a.spec
	var got []uint64
	for _, e := range a.table {
		got = append(got, e.Tag)
	}
	slices.Sort(got)
	if want := a.wantedTags(); !slices.Equal(got, want) {
		a.fail("tags", got, want)
	}
	if s.Soname != "" {
		if name, ok := a.table.Text(a.image, a.value(dyn.Soname)); !ok || name != s.Soname {
			a.fail("Soname", name)
		}
	}
	var needed []string
	for at := range a.table.All(dyn.Needed) {
		name, ok := a.table.Text(a.image, at)
		if !ok {
			a.fail("no name", at)
		}
		needed = append(needed, name)
	}
	if !slices.Equal(needed, s.Needed) {
		a.fail("Needed", needed)
	}
	if s.Stays && a.value(dyn.Flags1) != 8 {
		a.fail("Flags1", a.value(dyn.Flags1))
	}
	a.wantArray(dyn.InitArray, dyn.InitSize, a.plan.Arrays, len(s.Init))
	a.wantArray(dyn.FiniArray, dyn.FiniSize, a.plan.Arrays+8*uint64(len(s.Init)), len(s.Fini))
}

// wantArray: an array of so many words is where it is to be, if there are any.
func (a again) wantArray(tag, sizeTag, at uint64, n int) {
	a.t.Helper()
	if n > 0 && (a.value(tag) != at || a.value(sizeTag) != 8*uint64(n)) {
		a.fail("array", tag, a.value(tag), a.value(sizeTag), at)
	}
	if b, ok := a.table.Span(a.image, tag, sizeTag); !ok || len(b) != 8*n {
		a.fail("array's bytes", tag, b)
	}
}

// names: the string table.
func (a again) names() string {
	a.t.Helper()
	b, ok := a.table.Span(a.image, dyn.StrTab, dyn.StrSize)
	if !ok {
		a.fail("no string table")
	}
	return b
}

// wantTexts: the string table has each text once, and none that nobody asks for.
func (a again) wantTexts() {
	a.t.Helper()
	wanted := map[string]bool{"": true, a.spec.Soname: true}
	for _, name := range a.spec.Needed {
		wanted[name] = true
	}
	for _, x := range a.spec.Symbols {
		wanted[x.Name], wanted[x.Version] = true, true
	}
	// What is behind the last byte 0 is empty, as the first text is.
	got := strings.Split(a.names(), "\x00")[1:]
	slices.Sort(got)
	if want := slices.Sorted(maps.Keys(wanted)); !slices.Equal(got, want) {
		a.fail("texts", got, want)
	}
}

// symbols of the file, as layer 11 reads them.
func (a again) symbols() []sym.Symbol {
	a.t.Helper()
	l, f := sym.Read(a.bytes(a.value(dyn.SymTab), 24*uint64(len(a.spec.Symbols)+1)), a.names())
	if !f.OK() {
		a.fail("sym", f)
	}
	return l
}

// P16.1, P16.2: each symbol is at its Index, with all that it is to have; those of one name are in the spec's order.
func (a again) wantSymbols() {
	a.t.Helper()
	s, p := a.spec, a.plan
	l := a.symbols()
	if l[0] != (sym.Symbol{}) {
		a.fail("the first symbol", l[0])
	}
	all := append([]int(nil), p.Index...)
	slices.Sort(all)
	for k, i := range all {
		if i != k+1 {
			a.fail("Index", p.Index)
		}
	}
	if len(p.Index) != len(s.Symbols) {
		a.fail("Index", p.Index)
	}
	for k, x := range s.Symbols {
		want := sym.Symbol{Name: x.Name, Bind: x.Bind, Vis: x.Vis, Defined: x.Where != 0}
		switch x.Where {
		case 1:
			want.Value = p.Code + x.At
		case 2:
			want.Value = p.Data + x.At
		}
		if got := l[p.Index[k]]; got != want {
			a.fail("symbol", k, got, want)
		}
		for j, y := range s.Symbols[:k] {
			if y.Name == x.Name && p.Index[j] >= p.Index[k] {
				a.fail("of one name", j, k)
			}
		}
	}
}

// P16.2: the hash table, of the kind that was asked for, tells how many symbols there are, and has all that are defined.
func (a again) wantHash() {
	a.t.Helper()
	var names []string
	for _, x := range a.symbols() {
		names = append(names, x.Name)
	}
	var walk func(string) func(func(int) bool)
	var find func(string, []string) (int, bool)
	if a.spec.Gnu {
		x, f := gnu.Read(a.toEnd(a.value(dyn.GnuHash)))
		if !f.OK() || x.Symbols() != len(names) {
			a.fail("gnu", f, x)
		}
		walk, find = x.Walk, x.Find
	} else {
		x, f := sysv.Read(a.toEnd(a.value(dyn.Hash)))
		if _, ok := x.Check(names); !f.OK() || len(x.Chains) != len(names) || !ok {
			a.fail("sysv", f, x)
		}
		walk, find = x.Walk, x.Find
	}
	for k, x := range a.spec.Symbols {
		if x.Where == 0 {
			continue
		}
		if !slices.Contains(slices.Collect(walk(x.Name)), a.plan.Index[k]) {
			a.fail("not walked by", k)
		}
		if i, ok := find(x.Name, names); !ok || names[i] != x.Name {
			a.fail("not found", k)
		}
	}
	for _, name := range []string{"", "nobody", "f\x00"} {
		if i, ok := find(name, names); ok {
			a.fail("found", name, i)
		}
	}
}

// versions of the file, as layer 12 reads them; the numbers alone, where there are no others.
func (a again) versions() vers.Table {
	a.t.Helper()
	var x vers.Table
	if at, ok := a.table.Get(dyn.VerDef); ok {
		l, f := vers.Defs(a.toEnd(at), a.names(), int(a.value(dyn.VerDefs)))
		if !f.OK() {
			a.fail("Defs", f)
		}
		x.Defs = l
	}
	if at, ok := a.table.Get(dyn.VerNeed); ok {
		l, f := vers.Needs(a.toEnd(at), a.names(), int(a.value(dyn.VerNeeds)))
		if !f.OK() {
			a.fail("Needs", f)
		}
		x.Needs = l
	}
	if at, ok := a.table.Get(dyn.VerSym); ok {
		x.Numbers = vers.Numbers(a.bytes(at, 2*uint64(len(a.spec.Symbols)+1)))
	}
	return x
}

// P16.2: each symbol's version, the versions' numbers, and that there are no others.
func (a again) wantVersions() {
	a.t.Helper()
	x := a.versions()
	wanted := map[string]bool{}
	for k, s := range a.spec.Symbols {
		i := a.plan.Index[k]
		if name, file, hidden := x.Of(i); name != s.Version || file != s.From || hidden != s.Hidden {
			a.fail("version", k, name, file, hidden)
		}
		if s.Version != "" {
			wanted[s.From+"\x00"+s.Version] = true
		} else if x.Numbers != nil && x.Numbers[i]&0x7fff != 1 {
			a.fail("number", k, x.Numbers)
		}
	}
	if x.Numbers != nil && x.Numbers[0] != 1 {
		a.fail("number of the first symbol", x.Numbers)
	}
	var got []string
	var numbers []int
	for _, d := range x.Defs {
		got, numbers = append(got, "\x00"+d.Name), append(numbers, d.Number)
	}
	for _, d := range x.Needs {
		got, numbers = append(got, d.File+"\x00"+d.Name), append(numbers, d.Number)
		if d.Weak {
			a.fail("weak", d)
		}
	}
	slices.Sort(got)
	if want := slices.Sorted(maps.Keys(wanted)); !slices.Equal(got, want) {
		a.fail("versions", got, want)
	}
	slices.Sort(numbers)
	for k, n := range numbers {
		if n != 2+k {
			a.fail("numbers", numbers)
		}
	}
	a.wantByFile(x.Needs)
}

// wantByFile: of each file there is one entry, and each of them is counted.
func (a again) wantByFile(l []vers.Need) {
	a.t.Helper()
	var files []string
	for _, d := range l {
		if len(files) == 0 || files[len(files)-1] != d.File {
			files = append(files, d.File)
		}
	}
	if n, _ := a.table.Get(dyn.VerNeeds); int(n) != len(files) {
		a.fail("files", n, l)
	}
	slices.Sort(files)
	if len(slices.Compact(files)) != len(files) {
		a.fail("not by file", l)
	}
}

// relas of the file, as layer 15 reads them.
func (a again) relas(tag, sizeTag uint64) []rela.Rela {
	a.t.Helper()
	b, ok := a.table.Span(a.image, tag, sizeTag)
	if !ok {
		a.fail("no relocations", tag)
	}
	l, f := rela.Read(b, len(a.spec.Symbols)+1)
	if !f.OK() {
		a.fail("rela", f)
	}
	return l
}

// P16.2: the relocations, in order.
func (a again) wantRelocations() {
	a.t.Helper()
	s, p := a.spec, a.plan
	var want, slots []rela.Rela
	for k, at := range append(append([]uint64(nil), s.Init...), s.Fini...) {
		want = append(want, rela.Rela{At: p.Arrays + 8*uint64(k), Kind: 3, Add: p.Code + at})
	}
	for _, m := range s.Moves {
		x := rela.Rela{At: p.Data + m.At, Kind: m.Kind, Add: m.Add}
		if m.Kind != 3 {
			x.Sym = p.Index[m.Sym]
		}
		want = append(want, x)
	}
	for k, i := range s.Slots {
		slots = append(slots, rela.Rela{At: p.Slots + 8*uint64(k), Kind: 5, Sym: p.Index[i]})
	}
	if got := a.relas(dyn.Rela, dyn.RelaSize); !slices.Equal(got, want) {
		a.fail("Rela", got, want)
	}
	if got := a.relas(dyn.JmpRel, dyn.PltSize); !slices.Equal(got, slots) {
		a.fail("JmpRel", got, slots)
	}
	for _, x := range append(want, slots...) {
		a.bytes(x.At, 8)
	}
}

// P16.1 to P16.3: the code, the data, and the three instructions of each stub.
func (a again) wantStubs() {
	a.t.Helper()
	s, p := a.spec, a.plan
	if s.Code != "" && a.bytes(p.Code, size(s.Code)) != s.Code {
		a.fail("code")
	}
	if s.Data != "" && a.bytes(p.Data, size(s.Data)) != s.Data {
		a.fail("data")
	}
	for k := range s.Slots {
		at := p.Code + uint64(Stub(len(s.Code), k))
		if at != p.Stubs+12*uint64(k) {
			a.fail("stub", k, at)
		}
		var l []inst.Inst
		for _, w := range le.Each(a.bytes(at, 12), 4) {
			x, ok := inst.Decode(uint32(le.Get(w)))
			if !ok {
				a.fail("no instruction", k, w)
			}
			l = append(l, x)
		}
		far, low := l[0].Imm, l[1].Imm
		if at+uint64(far)+uint64(low) != p.Slots+8*uint64(k) {
			a.fail("the word of a slot", k, l)
		}
		want := []inst.Inst{
			{Op: inst.Auipc, Rd: 28, Imm: far},
			{Op: inst.Ld, Rd: 28, Rs1: 28, Imm: low},
			{Op: inst.Jalr, Rd: 0, Rs1: 28},
		}
		if !slices.Equal(l, want) {
			a.fail("stub", k, l)
		}
	}
}
