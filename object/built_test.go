package object

import (
	"math/rand"
	"reflect"
	"slices"
	"strings"
	"testing"

	"turnbuckle/api"
	"turnbuckle/fail"
	"turnbuckle/head"
	"turnbuckle/pack"
	"turnbuckle/rela"
	"turnbuckle/span"
	"turnbuckle/sym"
)

// upTo: a number by chance, from 0 on.
func upTo(r *rand.Rand, most int) int { return r.Intn(most + 1) }

// oneOf a list by chance.
func oneOf[T any](r *rand.Rand, l ...T) T { return l[r.Intn(len(l))] }

// chance: a spec by chance, that may be.
func chance(r *rand.Rand) pack.Spec {
	s := pack.Spec{
		Soname: oneOf(r, "", "liba", strings.Repeat("s", api.MaxName)),
		Code:   strings.Repeat("\x13\x00\x00\x00", upTo(r, 80)),
		Data:   strings.Repeat("12345678", upTo(r, 80)),
		Gnu:    r.Intn(2) == 0,
		Now:    r.Intn(3) == 0,
		Stays:  r.Intn(3) == 0,
	}
	for range upTo(r, 3) {
		s.Needed = append(s.Needed, oneOf(r, "libb", "libc", "libd", "libe"))
	}
	for range upTo(r, oneOf(r, 3, 12, 40)) {
		s.Symbols = append(s.Symbols, chanceSymbol(r, s))
	}
	for range upTo(r, 3) {
		s.Init = append(s.Init, 4*uint64(upTo(r, len(s.Code)/4)))
		s.Fini = append(s.Fini, 4*uint64(upTo(r, len(s.Code)/4)))
	}
	if len(s.Symbols) == 0 {
		return s
	}
	for range upTo(r, 5) {
		s.Slots = append(s.Slots, r.Intn(len(s.Symbols)))
	}
	for range upTo(r, 5) * min(len(s.Data), 1) {
		x := pack.Move{Kind: rela.Word + r.Intn(3), At: 8 * uint64(r.Intn(len(s.Data)/8)), Add: r.Uint64()}
		if x.Kind != rela.Relative {
			x.Sym = r.Intn(len(s.Symbols))
		}
		s.Moves = append(s.Moves, x)
	}
	return s
}

// chanceSymbol of a spec.
func chanceSymbol(r *rand.Rand, s pack.Spec) pack.Symbol {
	x := pack.Symbol{
		Name:    oneOf(r, "f", "g", "h", "puts", "a0", "a1", strings.Repeat("n", api.MaxName)),
		Version: oneOf(r, "", "", "V1", "V2"),
		Hidden:  r.Intn(4) == 0,
		Bind:    oneOf(r, sym.Local, sym.Global, sym.Global, sym.Weak),
		Vis:     oneOf(r, sym.Default, sym.Default, sym.Default, sym.Internal, sym.Hidden, sym.Protected),
		Where:   r.Intn(3),
	}
	switch x.Where {
	case pack.None:
		if len(s.Needed) == 0 {
			x.Version = ""
		} else if x.Version != "" {
			x.From = oneOf(r, s.Needed...)
		}
	case pack.Code:
		x.At = uint64(upTo(r, len(s.Code)))
	case pack.Data:
		x.At = uint64(upTo(r, len(s.Data)))
	}
	return x
}

// build a file of a spec, which may be.
func build(t testing.TB, s pack.Spec) (string, pack.Plan) {
	t.Helper()
	b, p, e := pack.Build(s)
	if e != api.OK {
		t.Fatal(e, s)
	}
	return b, p
}

// specified: what the file of a spec is to be read as.
func specified(s pack.Spec, p pack.Plan) Object {
	o := Object{
		Soname:   s.Soname,
		Needed:   s.Needed,
		Symbols:  make([]sym.Symbol, len(s.Symbols)+1),
		Versions: make([]Version, len(s.Symbols)+1),
		Now:      s.Now,
		Stays:    s.Stays,
	}
	for k, x := range s.Symbols {
		y := sym.Symbol{Name: x.Name, Bind: x.Bind, Vis: x.Vis, Defined: x.Where != pack.None}
		switch x.Where {
		case pack.Code:
			y.Value = p.Code + x.At
		case pack.Data:
			y.Value = p.Data + x.At
		}
		o.Symbols[p.Index[k]] = y
		o.Versions[p.Index[k]] = Version{Name: x.Version, File: x.From, Hidden: x.Hidden}
	}
	for k, at := range slices.Concat(s.Init, s.Fini) {
		o.Data = append(o.Data, rela.Rela{At: p.Arrays + 8*uint64(k), Kind: rela.Relative, Add: p.Code + at})
	}
	for _, x := range s.Moves {
		y := rela.Rela{At: p.Data + x.At, Kind: x.Kind, Add: x.Add}
		if x.Kind != rela.Relative {
			y.Sym = p.Index[x.Sym]
		}
		o.Data = append(o.Data, y)
	}
	for k, i := range s.Slots {
		o.Plt = append(o.Plt, rela.Rela{At: p.Slots + 8*uint64(k), Kind: rela.Slot, Sym: p.Index[i]})
	}
	init := p.Arrays + 8*uint64(len(s.Init))
	if len(s.Init) > 0 {
		o.Init = span.Span{Lo: p.Arrays, Hi: init}
	}
	if len(s.Fini) > 0 {
		o.Fini = span.Span{Lo: init, Hi: init + 8*uint64(len(s.Fini))}
	}
	// The slots, or what would stand there, begin with the page behind those that are sealed.
	o.Relro = []span.Span{{Lo: p.Arrays, Hi: p.Slots}}
	return o
}

// P17.1 to P17.3: files of specs of all kinds are read as what the spec says.
func TestBuilt(t *testing.T) {
	r := rand.New(rand.NewSource(17))
	for range 3000 {
		s := chance(r)
		b, p := build(t, s)
		o, f := Read(b)
		if !f.OK() {
			t.Fatal(f, s)
		}
		wantSame(t, "built", o, specified(s, p))
		for _, x := range append(s.Symbols, pack.Symbol{Name: "nobody"}) {
			for _, version := range []string{"", "V1", "V2", "V3"} {
				// All that are defined are in the table, so both calls tell the same.
				want := specifiedMeaning(s, p, x.Name, version)
				wantFound(t, "built", o, x.Name, version, want, want)
			}
		}
		if t.Failed() {
			t.Fatal(s)
		}
	}
}

// specifiedMeaning: at which place the symbol of a spec stands that a name and a version mean; 0: nowhere. Those of one name
// stand in the spec's order.
func specifiedMeaning(s pack.Spec, p pack.Plan, name, version string) int {
	hidden := 0
	for k, x := range s.Symbols {
		offered := x.Name == name && x.Where != pack.None && x.Bind != sym.Local && (x.Vis == sym.Default || x.Vis == sym.Protected)
		if !offered || version != "" && x.Version != "" && x.Version != version {
			continue
		}
		if version != "" || !x.Hidden {
			return p.Index[k]
		}
		if hidden == 0 {
			hidden = p.Index[k]
		}
	}
	return hidden
}

// P17.1: a built file that is cut, wherever, is refused with what layer 9 says of it.
func TestCut(t *testing.T) {
	r := rand.New(rand.NewSource(1))
	for range 3 {
		b, _ := build(t, chance(r))
		for n := range len(b) {
			_, want := head.Read(b[:n])
			if o, f := Read(b[:n]); o != nil || f != want || f.Code != api.ErrShort {
				t.Fatal(n, o, f, want)
			}
		}
		if _, f := Read(b + "\x00more"); !f.OK() {
			t.Error("more", f)
		}
	}
	b, _ := build(t, pack.Spec{})
	if _, f := Read(b + strings.Repeat("x", api.MaxFile-len(b))); !f.OK() {
		t.Error("most", f)
	}
	if _, f := Read(b + strings.Repeat("x", api.MaxFile-len(b)+1)); f != fail.Of(api.ErrLimit) {
		t.Error("too many", f)
	}
}

// wantTold: a file is refused, or read, as the chapter's words say; and where it is read no number of a symbol is beyond them.
// It tells the fault.
func wantTold(t testing.TB, s string) fail.Fault {
	t.Helper()
	want, f := told(s)
	got, g := Read(s)
	if f != g || (got == nil) == g.OK() {
		t.Fatalf("%q, not %q: %q", g.Text(), f.Text(), s)
	}
	if got == nil {
		return g
	}
	wantSame(t, "told", got, want)
	if !reflect.DeepEqual(got.Image, want.Image) {
		t.Error("image", got.Image)
	}
	n := len(got.Symbols)
	if len(got.Versions) != n {
		t.Error("versions", len(got.Versions), n)
	}
	for _, x := range slices.Concat(got.Data, got.Plt) {
		if x.Sym < 0 || x.Sym >= max(n, 1) {
			t.Error("a relocation's symbol", x)
		}
	}
	for _, x := range append(got.Symbols, sym.Symbol{Name: "nobody"}) {
		wantMeant(t, got, want, x.Name)
	}
	if t.Failed() {
		t.Fatalf("%q", s)
	}
	return g
}

// wantMeant: the walk of a name is the table's, and both calls tell what the symbols say.
func wantMeant(t testing.TB, got *Object, want Object, name string) {
	t.Helper()
	walk := walked(got, name)
	if l := slices.Collect(want.table.Walk(name)); !slices.Equal(walk, l) {
		t.Error("walk", name, walk, l)
	}
	for _, i := range walk {
		if i < 0 || i >= len(got.Symbols) {
			t.Error("walk", name, i)
		}
	}
	for _, version := range []string{"", "V1", "V2", "nobody"} {
		linear := among(got, name, version, func(int) bool { return true })
		if i, ok := got.Linear(name, version); i != linear || ok != (i > 0) {
			t.Error("Linear", name, version, i, ok, linear)
		}
		find := among(got, name, version, func(i int) bool { return slices.Contains(walk, i) })
		if i, ok := got.Find(name, version); i != find || ok != (i > 0) {
			t.Error("Find", name, version, i, ok, find)
		}
	}
}

// among some symbols of an object: which one is meant; 0: none.
func among(o *Object, name, version string, counts func(int) bool) int {
	best, rank := 0, 0
	for i := len(o.Symbols) - 1; i > 0; i-- {
		s, v := o.Symbols[i], o.Versions[i]
		if s.Name != name || !s.Exported() || !counts(i) {
			continue
		}
		// Of two of the same rank the one that stands ahead counts.
		x := 1
		if version == "" && !v.Hidden {
			x = 2
		}
		if (version == "" || v.Name == "" || v.Name == version) && x >= rank {
			best, rank = i, x
		}
	}
	return best
}

// changed: a file with some bytes changed by chance, mostly where something stands.
func changed(r *rand.Rand, s string) string {
	b := []byte(s)
	for range 1 + r.Intn(3) {
		lo, hi := 0, len(b)
		switch i, _ := head.Read(s); r.Intn(4) {
		case 0:
			hi = min(hi, 64+56*len(i.Segments))
		case 1:
			for g := range i.Of(head.Dynamic) {
				lo, hi = int(g.Off), int(g.Off+g.File)
			}
		case 2:
			for g := range i.Of(head.Load) {
				lo, hi = int(g.Off), int(g.Off+g.File)
				break
			}
		}
		at := lo + r.Intn(hi-lo)
		b[at] = oneOf(r, 0, b[at]+1, b[at]-1, b[at]^1<<r.Intn(8), byte(r.Intn(256)))
	}
	return string(b)
}

// isGreat: has a file a Load of so many bytes that the chapter's words would take too long?
func isGreat(s string) bool {
	i, _ := head.Read(s)
	for _, g := range i.Segments {
		if g.Mem > 1<<20 && (g.Kind == head.Load || g.Kind == head.Relro) && g.Mem <= api.High {
			return true
		}
	}
	return false
}

// P17.1 to P17.3: built files, of which some bytes are changed.
func TestChanged(t *testing.T) {
	r := rand.New(rand.NewSource(18))
	faults := map[api.Errno]int{}
	for range 400 {
		b, _ := build(t, chance(r))
		for range 50 {
			if s := changed(r, b); !isGreat(s) {
				faults[wantTold(t, s).Code]++
			}
		}
	}
	for _, e := range []api.Errno{api.OK, api.ErrShort, api.ErrMagic, api.ErrForm, api.ErrRange, api.ErrLimit, api.ErrMapped, api.ErrAlign, api.ErrNone, api.ErrReloc, api.ErrName} {
		if faults[e] == 0 {
			t.Error("never:", fail.Word(e))
		}
	}
	t.Log(faults)
}

// P17.1 to P17.3: any bytes.
func FuzzRead(f *testing.F) {
	r := rand.New(rand.NewSource(19))
	f.Add("")
	for range 8 {
		b, _ := build(f, chance(r))
		f.Add(b)
	}
	for _, is := range kinds {
		f.Add(base(is).file())
	}
	f.Fuzz(func(t *testing.T, s string) {
		if !isGreat(s) {
			wantTold(t, s)
		}
	})
}
