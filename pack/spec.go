package pack

import (
	"slices"
	"strings"

	"turnbuckle/api"
	"turnbuckle/rela"
	"turnbuckle/sym"
)

// The most that a spec has of each thing.
const (
	mostSymbols = 40
	mostNeeded  = 8
	mostMoves   = 60
	mostSlots   = 20
	mostArray   = 8    // of what is run first, and of what is run last
	mostBytes   = 4096 // of code, and of data
)

// may: may the spec be?
func (s Spec) may() bool {
	return s.isSmall() && isText(s.Soname) && all(s.Needed, isName) &&
		all(s.Symbols, s.maySymbol) && all(s.Moves, s.mayMove) && all(s.Slots, s.isSymbol) &&
		all(s.Init, s.isEntry) && all(s.Fini, s.isEntry)
}

// isSmall: has the spec no more of anything than it may have, and whole instructions and words?
func (s Spec) isSmall() bool {
	return len(s.Symbols) <= mostSymbols && len(s.Needed) <= mostNeeded &&
		len(s.Moves) <= mostMoves && len(s.Slots) <= mostSlots &&
		len(s.Init) <= mostArray && len(s.Fini) <= mostArray &&
		len(s.Code) <= mostBytes && len(s.Code)%instBytes == 0 &&
		len(s.Data) <= mostBytes && len(s.Data)%wordBytes == 0
}

// maySymbol: may the spec have such a symbol?
func (s Spec) maySymbol(x Symbol) bool {
	return isName(x.Name) && isText(x.Version) &&
		x.Bind >= sym.Local && x.Bind <= sym.Weak &&
		x.Vis >= sym.Default && x.Vis <= sym.Protected &&
		s.mayBeAt(x) && s.mayBeFrom(x)
}

// mayBeAt: may the symbol be where it is?
func (s Spec) mayBeAt(x Symbol) bool {
	switch x.Where {
	case None:
		return x.At == 0
	case Code:
		return x.At <= length(s.Code)
	case Data:
		return x.At <= length(s.Data)
	}
	return false
}

// mayBeFrom: may the symbol be from the file that it is from?
func (s Spec) mayBeFrom(x Symbol) bool {
	if x.isDefined() || x.Version == "" {
		return x.From == ""
	}
	return slices.Contains(s.Needed, x.From)
}

// mayMove: may the spec have such a move?
func (s Spec) mayMove(x Move) bool {
	if x.At%wordBytes != 0 || x.At >= length(s.Data) {
		return false
	}
	switch x.Kind {
	case rela.Relative:
		return x.Sym == 0
	case rela.Word, rela.Copy:
		return s.isSymbol(x.Sym)
	}
	return false
}

// isSymbol: is it the place of a symbol of the spec?
func (s Spec) isSymbol(i int) bool { return i >= 0 && i < len(s.Symbols) }

// isEntry: is it a place of the code at which something may begin?
func (s Spec) isEntry(at uint64) bool { return at%instBytes == 0 && at <= length(s.Code) }

// isDefined: does the file itself define the symbol?
func (x Symbol) isDefined() bool { return x.Where != None }

// isName: may it be a name?
func isName(name string) bool { return name != "" && isText(name) }

// isText: may it be a name, or be empty?
func isText(name string) bool {
	return len(name) <= api.MaxName && strings.IndexByte(name, 0) < 0
}

// all: is it so of each element?
func all[T any](l []T, isSo func(T) bool) bool {
	return !slices.ContainsFunc(l, func(x T) bool { return !isSo(x) })
}
