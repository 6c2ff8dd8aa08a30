package object

import (
	"slices"
	"testing"

	"turnbuckle/dyn"
	"turnbuckle/gnu"
	"turnbuckle/sym"
	"turnbuckle/sysv"
)

// wantFound: what both calls tell of a name and a version; 0: nothing.
func wantFound(t *testing.T, what string, o *Object, name, version string, find, linear int) {
	t.Helper()
	if i, ok := o.Find(name, version); i != find || ok != (find > 0) {
		t.Errorf("%s: Find %q %q: %d %v, not %d", what, name, version, i, ok, find)
	}
	if i, ok := o.Linear(name, version); i != linear || ok != (linear > 0) {
		t.Errorf("%s: Linear %q %q: %d %v, not %d", what, name, version, i, ok, linear)
	}
}

// P17.2, P17.3: of a file with either table.
func TestFind(t *testing.T) {
	for _, is := range kinds {
		o := base(is).read(t, "whole")
		for _, c := range []struct {
			name, version string
			want          int
		}{
			{"f", "", 3}, // the first one is hidden
			{"f", "V1", 2},
			{"f", "V2", 3},
			{"f", "V3", 0},
			{"f", "v1", 0},
			{"g", "", 4},
			{"g", "V1", 4}, // it has no version
			{"own", "", 0},
			{"puts", "", 0},
			{"puts", "C1", 0},
			{"h", "", 0},
			{"h", "V1", 0},
			{"", "", 0},
			{"nobody", "", 0},
			{"nobody", "V1", 0},
			{"f\x00", "", 0},
		} {
			wantFound(t, "whole", o, c.name, c.version, c.want, c.want)
		}
	}
}

// inTable: an object with symbols that are all called n, behind the one that is none, and a table that has them all.
func inTable(isGnu bool, l []sym.Symbol, v []Version) *Object {
	o := &Object{Symbols: append([]sym.Symbol{{}}, l...), Versions: append([]Version{{}}, v...)}
	names := make([]string, len(o.Symbols))
	for i := range l {
		o.Symbols[i+1].Name, names[i+1] = "n", "n"
	}
	if isGnu {
		x, _ := gnu.Build(names[1:], 1, 1, 1, 0)
		o.table = gnuTable{x}
	} else {
		x, _ := sysv.Build(names, 1)
		o.table = sysvTable{x}
	}
	return o
}

// meaning of n by the chapter's words.
func meaning(o *Object, version string) int {
	var shown, hidden, versioned []int
	for i := 1; i < len(o.Symbols); i++ {
		v := o.Versions[i]
		if !o.Symbols[i].Exported() {
			continue
		}
		if v.Hidden {
			hidden = append(hidden, i)
		} else {
			shown = append(shown, i)
		}
		if v.Name == version || v.Name == "" {
			versioned = append(versioned, i)
		}
	}
	if version == "" {
		versioned = append(shown, hidden...)
	}
	return append(versioned, 0)[0]
}

// P17.2, P17.3: of up to three symbols of one name, in all ways to be offered or not, versioned or not, hidden or not.
func TestOneName(t *testing.T) {
	offered := []sym.Symbol{
		{Bind: 1, Defined: true},
		{Bind: 2, Vis: 3, Defined: true},
		{Bind: 1},
		{Defined: true},
		{Bind: 1, Vis: 2, Defined: true},
	}
	versions := []Version{{}, {Name: "V1"}, {Name: "V2"}, {Hidden: true}, {Name: "V1", Hidden: true}, {Name: "V2", Hidden: true}}
	n := len(offered) * len(versions)
	for k := range 1 + n + n*n + n*n*n {
		var l []sym.Symbol
		var v []Version
		for ; k > 0; k = (k - 1) / n {
			x := (k - 1) % n
			l, v = append(l, offered[x/len(versions)]), append(v, versions[x%len(versions)])
		}
		for _, is := range kinds {
			o := inTable(is, l, v)
			for _, version := range []string{"", "V1", "V2", "V3"} {
				want := meaning(o, version)
				wantFound(t, "of one name", o, "n", version, want, want)
			}
		}
	}
}

// P17.3: System V's walk meets the later symbols first, but the first one in order is told.
func TestOtherOrder(t *testing.T) {
	shown := sym.Symbol{Bind: 1, Defined: true}
	o := inTable(false, []sym.Symbol{shown, shown, shown}, []Version{{Name: "V1"}, {Name: "V2"}, {Name: "V1"}})
	if l := walked(o, "n"); !slices.Equal(l, []int{3, 2, 1}) {
		t.Fatal(l)
	}
	wantFound(t, "any", o, "n", "", 1, 1)
	wantFound(t, "V1", o, "n", "V1", 1, 1)
	wantFound(t, "V2", o, "n", "V2", 2, 2)
	o.Versions[1].Hidden, o.Versions[3].Hidden = true, true
	wantFound(t, "the second one alone isn't hidden", o, "n", "", 2, 2)
	o.Versions[2].Hidden = true
	wantFound(t, "all are hidden", o, "n", "", 1, 1)
}

// P17.3: Find knows the symbols of the walk alone, also where that goes round.
func TestWalkAlone(t *testing.T) {
	for _, c := range []struct {
		what   string
		chains []uint64 // of the symbols from 0 on; the Bucket is the symbol 3
		want   int      // of f without a version; f is 2, which is hidden, and 3
		first  int      // of f with the version V1, which 2 has
	}{
		{"both", []uint64{0, 0, 0, 2, 0, 0, 0}, 3, 2},
		{"the second one", []uint64{0, 0, 0, 0, 0, 0, 0}, 3, 0},
		{"round", []uint64{0, 0, 3, 2, 0, 0, 0}, 3, 2},
		{"round at once", []uint64{0, 0, 2, 3, 0, 0, 0}, 3, 0},
		{"round by others", []uint64{0, 6, 1, 5, 0, 2, 5}, 3, 2},
	} {
		d := base(false)
		d.poke(sysvAt, numbers(4, 1, 4, 7, 4, 3))
		for i, n := range c.chains {
			d.poke(sysvAt+12+4*uint64(i), numbers(4, n))
		}
		o := d.read(t, c.what)
		wantFound(t, c.what, o, "f", "", c.want, 3)
		wantFound(t, c.what, o, "f", "V1", c.first, 2)
		wantFound(t, c.what, o, "g", "", 0, 4)
		if len(walked(o, "f")) > 7 {
			t.Error(c.what, walked(o, "f"))
		}
	}
	d := base(false)
	d.poke(sysvAt, numbers(4, 1, 4, 7, 4, 2))
	d.poke(sysvAt+12, numbers(4, 0, 4, 0, 4, 0))
	o := d.read(t, "the first one")
	wantFound(t, "the first one", o, "f", "", 2, 3)
	wantFound(t, "the first one", o, "f", "V2", 0, 3)
}

// P17.2, P17.3: the symbol 0 is none, though a table has it, and it were offered.
func TestFirstSymbol(t *testing.T) {
	d := base(true)
	d.poke(symAt, sym.Put(sym.Symbol{Bind: 1, Defined: true}, uint32(nameAt("f"))))
	h := uint64(gnu.Hash("f"))
	// Of the two Buckets, that of f tells the symbol 0, and the other one that there are Chains.
	buckets := []uint64{4, 0, 4, 6}
	if h%2 == 1 {
		buckets = []uint64{4, 6, 4, 0}
	}
	d.poke(gnuAt, numbers(4, 2, 4, 0, 4, 1, 4, 0, 8, 1<<64-1)+numbers(buckets...)+
		numbers(4, h&^1, 4, 1, 4, h&^1, 4, h|1, 4, 0, 4, 0, 4, 1))
	o := d.read(t, "the symbol 0")
	if l := walked(o, "f"); len(l) == 0 || l[0] != 0 {
		t.Fatal(l)
	}
	wantFound(t, "the symbol 0", o, "f", "", 0, 3)
	wantFound(t, "the symbol 0", o, "f", "V1", 0, 2)
}

// P17.3: the walk is the table's, which may be ended, and gone through again.
func TestWalk(t *testing.T) {
	for _, is := range kinds {
		d := base(is)
		o := d.read(t, "whole")
		var want func(string) func(func(int) bool)
		if is {
			x, _ := gnu.Read(string(d.bytes[gnuAt:]))
			want = x.Walk
		} else {
			x, _ := sysv.Read(string(d.bytes[sysvAt:]))
			want = x.Walk
		}
		for _, name := range []string{"", "f", "g", "own", "puts", "h", "nobody", "V1"} {
			all := slices.Collect(want(name))
			walk := o.Walk(name)
			for range 2 {
				if got := slices.Collect(walk); !slices.Equal(got, all) {
					t.Error(name, got, all)
				}
			}
			for n := range all {
				var got []int
				for i := range walk {
					got = append(got, i)
					if len(got) == n+1 {
						break
					}
				}
				if !slices.Equal(got, all[:n+1]) {
					t.Error(name, n, got)
				}
			}
		}
		if l := walked(o, "f"); !slices.Contains(l, 2) || !slices.Contains(l, 3) {
			t.Error("f", l)
		}
	}
}

// P17.1: of a nil *Object nothing, and false; of one without parts, too.
func TestNil(t *testing.T) {
	for _, o := range []*Object{nil, {}, {Symbols: []sym.Symbol{{}}}} {
		for _, name := range []string{"", "f"} {
			for _, version := range []string{"", "V1"} {
				wantFound(t, "nil", o, name, version, 0, 0)
			}
			if l := walked(o, name); len(l) != 0 {
				t.Error(l)
			}
		}
	}
}

// P17.2, P17.3: what somebody has cut short tells of the symbols that are left.
func TestCutByHand(t *testing.T) {
	shown := sym.Symbol{Bind: 1, Defined: true}
	for _, is := range kinds {
		o := inTable(is, []sym.Symbol{shown, shown, shown}, []Version{{Name: "V1", Hidden: true}, {Name: "V2"}, {Name: "V3"}})
		o.Versions = o.Versions[:2]
		wantFound(t, "versions", o, "n", "", 2, 2)
		wantFound(t, "versions", o, "n", "V1", 1, 1)
		wantFound(t, "versions", o, "n", "V3", 2, 2)
		o.Symbols = o.Symbols[:2]
		wantFound(t, "symbols", o, "n", "", 1, 1)
		wantFound(t, "symbols", o, "n", "V3", 0, 0)
		o.Symbols = nil
		wantFound(t, "no symbols", o, "n", "", 0, 0)
	}
}

// P17.2, P17.3: where a file tells no versions each symbol is as good as any other of its name.
func TestWithoutVersions(t *testing.T) {
	for _, is := range kinds {
		d := base(is)
		d.drop(dyn.VerSym, dyn.VerDef, dyn.VerNeed)
		o := d.read(t, "without versions")
		for _, version := range []string{"", "V1", "V2", "V3"} {
			wantFound(t, "without versions", o, "f", version, 2, 2)
			wantFound(t, "without versions", o, "g", version, 4, 4)
		}
	}
}
