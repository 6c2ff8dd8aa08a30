package pack

import (
	"slices"

	"turnbuckle/dyn"
	"turnbuckle/le"
	"turnbuckle/vers"
)

// The numbers of symbols' versions.
const (
	noVersion    = 1
	firstVersion = 2
	hiddenBit    = 0x8000
)

// Of the entries of versions: what they begin with, and how many bytes there are of each.
const (
	entryForm    = 1
	defBytes     = 20 // of a version that is defined
	nameBytes    = 8  // of its name, of which it has one
	fileBytes    = 16 // of a file that versions are needed of
	versionBytes = 16 // of such a version
)

// group of versions, whose numbers follow one another.
type group struct {
	file  string // that they are needed of; empty: they are defined
	first int    // the number of the first one
	names []string
}

// groupsOf the versions of a spec's symbols: those that are defined, and the others by their files.
func groupsOf(s Spec) []group {
	var l []group
	number := firstVersion
	for _, file := range append([]string{""}, s.Needed...) {
		names := s.versions(file)
		// A file may be needed twice; its versions are not.
		if len(names) == 0 || slices.ContainsFunc(l, func(g group) bool { return g.file == file }) {
			continue
		}
		l = append(l, group{file: file, first: number, names: names})
		number += len(names)
	}
	return l
}

// versions of the symbols from a file (empty: of those that are defined), each once.
func (s Spec) versions(file string) []string {
	var l []string
	for _, x := range s.Symbols {
		if x.From == file && x.Version != "" && !slices.Contains(l, x.Version) {
			l = append(l, x.Version)
		}
	}
	return l
}

// defs: the versions that are defined, and how many there are.
func (m *maker) defs() table {
	t := table{tag: dyn.VerDef, sizeTag: dyn.VerDefs}
	for _, g := range m.groups {
		if g.file != "" {
			continue
		}
		for i, name := range g.names {
			t.bytes += le.Put(entryForm, 2) + le.Put(0, 2) + le.Put(g.number(i), 2) + le.Put(1, 2) +
				hash(name) + le.Put(defBytes, 4) + next(i, len(g.names), defBytes+nameBytes) +
				m.name(name) + le.Put(0, 4)
			t.size++
		}
	}
	return t
}

// needs: the versions that are needed, and of how many files.
func (m *maker) needs() table {
	t := table{tag: dyn.VerNeed, sizeTag: dyn.VerNeeds}
	for i, g := range m.groups {
		if g.file == "" {
			continue
		}
		n := len(g.names)
		t.bytes += le.Put(entryForm, 2) + le.Put(uint64(n), 2) + m.name(g.file) +
			le.Put(fileBytes, 4) + next(i, len(m.groups), fileBytes+versionBytes*n)
		for k, name := range g.names {
			t.bytes += hash(name) + le.Put(0, 2) + le.Put(g.number(k), 2) + m.name(name) + next(k, n, versionBytes)
		}
		t.size++
	}
	return t
}

// numbers: of each symbol that of its version; nothing, where no symbol has more to tell than that it has none.
func (m *maker) numbers() table {
	t := table{tag: dyn.VerSym}
	if !slices.ContainsFunc(m.symbols, func(x Symbol) bool { return x.Version != "" || x.Hidden }) {
		return t
	}
	t.bytes = le.Put(noVersion, 2)
	for _, x := range m.symbols {
		n := m.numberOf(x)
		if x.Hidden {
			n |= hiddenBit
		}
		t.bytes += le.Put(n, 2)
	}
	return t
}

// numberOf a symbol's version.
func (m *maker) numberOf(x Symbol) uint64 {
	for _, g := range m.groups {
		if i := slices.Index(g.names, x.Version); g.file == x.From && i >= 0 {
			return g.number(i)
		}
	}
	return noVersion
}

// number of the version at a place of a group.
func (g group) number(i int) uint64 { return uint64(g.first + i) }

// hash of a version's name, as an entry has it.
func hash(name string) string { return le.Put(uint64(vers.Hash(name)), 4) }

// name: where it begins in the string table, as an entry has it.
func (m *maker) name(s string) string { return le.Put(m.texts.place(s), 4) }

// next: how far the entry behind that at a place is, where there are so many; 0 from the last one.
func next(i, entries, bytes int) string {
	if i == entries-1 {
		bytes = 0
	}
	return le.Put(uint64(bytes), 4)
}
