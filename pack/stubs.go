package pack

import (
	"strings"

	"turnbuckle/inst"
	"turnbuckle/le"
)

const (
	slotRegister = 28 // that a stub loads its slot's word to
	lowBits      = 12 // of how far that word is, those that ld adds, with their sign, to what auipc tells
)

// stubs of so many slots.
func stubs(p Plan, slots int) string {
	var b strings.Builder
	for k := range uint64(slots) {
		b.WriteString(stub(p.Stubs+stubBytes*k, p.Slots+wordBytes*k))
	}
	return b.String()
}

// stub at an address, of the slot whose word is at another one.
func stub(at, word uint64) string {
	far := word - at
	low := int64(le.Extend(far, lowBits))
	return encoded(
		inst.Inst{Op: inst.Auipc, Rd: slotRegister, Imm: int64(far) - low},
		inst.Inst{Op: inst.Ld, Rd: slotRegister, Rs1: slotRegister, Imm: low},
		inst.Inst{Op: inst.Jalr, Rs1: slotRegister},
	)
}

// encoded: the bytes of instructions.
func encoded(l ...inst.Inst) string {
	var b strings.Builder
	for _, x := range l {
		// A slot's word is never so far that this would not go into the words.
		w, _ := inst.Encode(x)
		b.WriteString(le.Put(uint64(w), instBytes))
	}
	return b.String()
}
