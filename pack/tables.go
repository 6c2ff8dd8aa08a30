package pack

import (
	"slices"
	"strings"

	"turnbuckle/dyn"
	"turnbuckle/gnu"
	"turnbuckle/le"
	"turnbuckle/rela"
	"turnbuckle/sym"
	"turnbuckle/sysv"
)

// first is the place of a file's first symbol that a spec tells: the one ahead of it is none.
const first = 1

// Of a hash table as GNU has them.
const (
	filterWords = 4
	filterShift = 6
)

const staysFlag = 8 // of the value of Flags1

// order of a file's symbols.
type order struct {
	places []int // in the spec, of those from the first one on
	ahead  int   // how many of them stand ahead of those of the hash table
}

// table of a file: the tags of its address, and of its size (0: none tells it).
type table struct {
	tag, sizeTag uint64
	size         uint64
	bytes        string
}

// maker of a file's tables.
type maker struct {
	spec    Spec
	plan    Plan
	order   order
	symbols []Symbol // in that order
	groups  []group
	texts   texts
}

// ordered: in which order a spec's symbols stand in the file.
func ordered(s Spec) order {
	var o order
	var hashed []int
	var names []string
	for i, x := range s.Symbols {
		if s.isAhead(i) {
			o.places = append(o.places, i)
			continue
		}
		hashed = append(hashed, i)
		names = append(names, x.Name)
	}
	o.ahead = len(o.places)
	if s.Gnu {
		hashed = picked(hashed, gnu.Order(names, buckets(len(names))))
	}
	o.places = append(o.places, hashed...)
	return o
}

// isAhead: does a symbol stand ahead of those of the hash table? Where that is GNU's, nobody looks in it for one that isn't
// defined; but behind a defined one of its name it can't stand ahead.
func (s Spec) isAhead(i int) bool {
	x := s.Symbols[i]
	if !s.Gnu || x.isDefined() {
		return false
	}
	return !slices.ContainsFunc(s.Symbols[:i], func(y Symbol) bool { return y.isDefined() && y.Name == x.Name })
}

// index: at which place of the file each symbol of the spec stands.
func (o order) index() []int {
	l := make([]int, len(o.places))
	for k, i := range o.places {
		l[i] = first + k
	}
	return l
}

// picked: the elements of a list that stand at these places, in order.
func picked[T any](l []T, places []int) []T {
	var all []T
	for _, i := range places {
		all = append(all, l[i])
	}
	return all
}

// tablesOf a spec, and its dynamic section.
func tablesOf(s Spec, o order, p Plan) (string, string) {
	m := maker{spec: s, plan: p, order: o, symbols: picked(s.Symbols, o.places), groups: groupsOf(s), texts: newTexts()}
	entries := m.named()
	var b strings.Builder
	for _, t := range m.tables() {
		entries = append(entries, t.entries(tablesAt+uint64(b.Len()))...)
		b.WriteString(t.bytes)
	}
	init, fini := words(len(s.Init)), words(len(s.Fini))
	entries = append(entries, sized(dyn.InitArray, dyn.InitSize, init).entries(p.Arrays)...)
	entries = append(entries, sized(dyn.FiniArray, dyn.FiniSize, fini).entries(p.Arrays+length(init))...)
	return b.String(), section(append(entries, s.flags()...))
}

// tables of the file: those with the longest numbers first, so that the numbers of all begin at multiples of their bytes.
func (m *maker) tables() []table {
	l := []table{m.symbolTable(), m.relocations(), m.slots(), m.hash(), m.defs(), m.needs(), m.numbers()}
	// Behind all others, which have asked for their texts by now.
	return append(l, sized(dyn.StrTab, dyn.StrSize, m.texts.bytes))
}

// sized: a table whose size are its bytes.
func sized(tag, sizeTag uint64, b string) table {
	return table{tag: tag, sizeTag: sizeTag, size: length(b), bytes: b}
}

// entries of the dynamic section for a table at an address; none, where it has no bytes.
func (t table) entries(at uint64) []dyn.Entry {
	if t.bytes == "" {
		return nil
	}
	l := []dyn.Entry{{Tag: t.tag, Value: at}}
	if t.sizeTag != 0 {
		l = append(l, dyn.Entry{Tag: t.sizeTag, Value: t.size})
	}
	return l
}

// named: the entries for the file's own name, and for those of the files that it needs.
func (m *maker) named() []dyn.Entry {
	var l []dyn.Entry
	if m.spec.Soname != "" {
		l = append(l, dyn.Entry{Tag: dyn.Soname, Value: m.texts.place(m.spec.Soname)})
	}
	for _, name := range m.spec.Needed {
		l = append(l, dyn.Entry{Tag: dyn.Needed, Value: m.texts.place(name)})
	}
	return l
}

// flags: the entries that tell how the file is to be loaded.
func (s Spec) flags() []dyn.Entry {
	var l []dyn.Entry
	if s.Now {
		l = append(l, dyn.Entry{Tag: dyn.BindNow})
	}
	if s.Stays {
		l = append(l, dyn.Entry{Tag: dyn.Flags1, Value: staysFlag})
	}
	return l
}

// section of entries, and one that ends it.
func section(l []dyn.Entry) string {
	var b strings.Builder
	for _, e := range append(l, dyn.Entry{}) {
		b.WriteString(le.Put(e.Tag, wordBytes) + le.Put(e.Value, wordBytes))
	}
	return b.String()
}

// symbolTable: the first symbol, which is none, and the spec's.
func (m *maker) symbolTable() table {
	b := sym.Put(sym.Symbol{}, 0)
	for _, x := range m.symbols {
		y := sym.Symbol{Bind: x.Bind, Vis: x.Vis, Defined: x.isDefined(), Value: m.plan.address(x)}
		b += sym.Put(y, uint32(m.texts.place(x.Name)))
	}
	return table{tag: dyn.SymTab, bytes: b}
}

// address of a symbol; 0, where it isn't defined.
func (p Plan) address(x Symbol) uint64 {
	switch x.Where {
	case Code:
		return p.Code + x.At
	case Data:
		return p.Data + x.At
	}
	return 0
}

// relocations that are made when the file is loaded.
func (m *maker) relocations() table {
	var b strings.Builder
	at := m.plan.Arrays
	for _, entry := range slices.Concat(m.spec.Init, m.spec.Fini) {
		b.WriteString(rela.Put(rela.Rela{At: at, Kind: rela.Relative, Add: m.plan.Code + entry}))
		at += wordBytes
	}
	for _, x := range m.spec.Moves {
		y := rela.Rela{At: m.plan.Data + x.At, Kind: x.Kind, Add: x.Add}
		if x.Kind != rela.Relative {
			y.Sym = m.plan.Index[x.Sym]
		}
		b.WriteString(rela.Put(y))
	}
	return sized(dyn.Rela, dyn.RelaSize, b.String())
}

// slots: the relocations that may be made when the slots are called first.
func (m *maker) slots() table {
	var b strings.Builder
	for k, i := range m.spec.Slots {
		b.WriteString(rela.Put(rela.Rela{At: m.plan.Slots + wordBytes*uint64(k), Kind: rela.Slot, Sym: m.plan.Index[i]}))
	}
	return sized(dyn.JmpRel, dyn.PltSize, b.String())
}

// hash table of the symbols, of the kind that the spec asks for.
func (m *maker) hash() table {
	var names []string
	for _, x := range m.symbols[m.order.ahead:] {
		names = append(names, x.Name)
	}
	n := buckets(len(names))
	if m.spec.Gnu {
		t, _ := gnu.Build(names, first+m.order.ahead, n, filterWords, filterShift)
		return table{tag: dyn.GnuHash, bytes: t.Put()}
	}
	t, _ := sysv.Build(append([]string{""}, names...), n)
	return table{tag: dyn.Hash, bytes: t.Put()}
}

// buckets of a hash table of so many names: one for two of them, but one at least.
func buckets(names int) int { return 1 + names/2 }
