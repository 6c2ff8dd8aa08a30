package object

import (
	"turnbuckle/fail"
	"turnbuckle/gnu"
	"turnbuckle/sysv"
)

// table: a file's hash table, of either kind.
type table interface {
	Walk(name string) func(func(int) bool)
	symbols() int
}

// gnuTable as GNU has them.
type gnuTable struct{ gnu.Table }

// sysvTable as System V has them.
type sysvTable struct{ sysv.Table }

// symbols: how many there are.
func (t gnuTable) symbols() int { return t.Symbols() }

// symbols: how many there are.
func (t sysvTable) symbols() int { return len(t.Chains) }

// readGnu: a table of bytes.
func readGnu(b string) (table, fail.Fault) {
	t, f := gnu.Read(b)
	return gnuTable{t}, f
}

// readSysv likewise.
func readSysv(b string) (table, fail.Fault) {
	t, f := sysv.Read(b)
	return sysvTable{t}, f
}
