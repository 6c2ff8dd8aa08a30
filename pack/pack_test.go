package pack

import (
	"math"
	"math/rand"
	"reflect"
	"slices"
	"strings"
	"testing"

	"turnbuckle/api"
	"turnbuckle/cpu"
	"turnbuckle/dyn"
	"turnbuckle/gnu"
	"turnbuckle/head"
	"turnbuckle/inst"
	"turnbuckle/le"
	"turnbuckle/vmem"
)

// code of so many bytes: each instruction does nothing, but goes back at the end.
func code(n int) string {
	if n == 0 {
		return ""
	}
	return strings.Repeat("\x13\x00\x00\x00", n/4-1) + "\x67\x80\x00\x00"
}

// data of so many bytes, none of them 0.
func data(n int) string {
	return strings.Repeat("12345678", n/8)
}

// name of so many bytes.
func name(n int) string { return strings.Repeat("n", n) }

// times: so many elements that are the same.
func times[T any](n int, x T) []T { return slices.Repeat([]T{x}, n) }

// plain: a spec with something of all, that may be.
func plain() Spec {
	return Spec{
		Soname: "liba",
		Needed: []string{"libb", "libc", "libd"},
		Symbols: []Symbol{
			{Name: "f", Bind: 1, Where: Code, At: 4},
			{Name: "g", Bind: 1, Version: "V2", From: "libc"},
			{Name: "h", Bind: 2, Vis: 3, Where: Data, Version: "V1", Hidden: true},
			{Name: "puts", Bind: 1},
			{Name: "h", Bind: 1, Where: Data, At: 8, Version: "V2"},
			{Name: "own", Vis: 2, Where: Code},
			{Name: "k", Bind: 2, Version: "V1", From: "libb"},
			{Name: "l", Bind: 1, Version: "V3", From: "libc"},
		},
		Code:  code(16),
		Data:  data(32),
		Moves: []Move{{Kind: 2, Sym: 3, Add: 4}, {Kind: 4, At: 24, Sym: 1, Add: 1}, {Kind: 3, At: 8, Add: math.MaxUint64}, {Kind: 2, At: 16, Sym: 7}},
		Slots: []int{3, 0, 3},
		Init:  []uint64{4, 0},
		Fini:  []uint64{8},
	}
}

// greatest: a spec with the most of everything.
func greatest() Spec {
	s := Spec{Soname: name(32), Code: code(4096), Data: data(4096), Now: true, Stays: true}
	for k := range 8 {
		s.Needed = append(s.Needed, name(31)+string(rune('a'+k)))
		s.Init = append(s.Init, 4096-4*uint64(k))
		s.Fini = append(s.Fini, 4*uint64(k))
	}
	for k := range 40 {
		x := Symbol{Name: name(30) + string(rune('a'+k/26)) + string(rune('a'+k%26)), Hidden: true, Bind: k % 3, Vis: k % 4, Where: k % 3}
		x.Version = strings.ToUpper(x.Name)
		if x.Where == None {
			x.From = s.Needed[k%8]
		} else {
			x.At = 4096
		}
		s.Symbols = append(s.Symbols, x)
	}
	for k := range 60 {
		s.Moves = append(s.Moves, Move{Kind: 2, At: 4088 - 8*uint64(k), Sym: 39 - k%40, Add: uint64(k) << 58})
	}
	for k := range 20 {
		s.Slots = append(s.Slots, 39-k)
	}
	return s
}

// both: a spec with either hash table.
func both(s Spec) []Spec {
	other := s
	s.Gnu, other.Gnu = false, true
	return []Spec{s, other}
}

// wantMade: a file is made of a spec with either hash table, as the chapter says.
func wantMade(t *testing.T, what string, s Spec) {
	t.Helper()
	for _, x := range both(s) {
		if _, _, e := Build(x); e != api.OK {
			t.Errorf("%s: %d", what, e)
			continue
		}
		built(t, x)
	}
}

// wantArg: a spec may not be, with either hash table, and nothing but that is told.
func wantArg(t *testing.T, what string, s Spec) {
	t.Helper()
	for _, x := range both(s) {
		if b, p, e := Build(x); e != api.ErrArg || b != "" || !reflect.DeepEqual(p, Plan{}) {
			t.Errorf("%s: %d, %d bytes, %+v", what, e, len(b), p)
		}
	}
}

// want: a spec that is plain but for one change may be, or not.
func want(t *testing.T, what string, may bool, change func(*Spec)) {
	t.Helper()
	s := plain()
	change(&s)
	if may {
		wantMade(t, what, s)
	} else {
		wantArg(t, what, s)
	}
}

// The numbers of where a symbol is are the chapter's.
func TestNumbers(t *testing.T) {
	if got := [...]int{None, Code, Data}; got != [...]int{0, 1, 2} {
		t.Error(got)
	}
}

// P16.1: the chapter's example.
func TestExample(t *testing.T) {
	for _, s := range both(Spec{Symbols: []Symbol{{Name: "f", Where: Code}}, Code: code(4)}) {
		if a := built(t, s); !slices.Equal(a.plan.Index, []int{1}) {
			t.Error(a.plan.Index)
		}
	}
}

// P16.1, P16.2: ordinary specs, and those without something.
func TestBuild(t *testing.T) {
	wantMade(t, "plain", plain())
	wantMade(t, "empty", Spec{})
	wantMade(t, "greatest", greatest())
	for what, change := range map[string]func(*Spec){
		"without code":               func(s *Spec) { *s = Spec{Data: data(8)} },
		"without code, but slots":    func(s *Spec) { s.Code, s.Init, s.Fini, s.Symbols[0].At = "", []uint64{0}, nil, 0 },
		"without data":               func(s *Spec) { s.Data, s.Moves, s.Symbols[4].At = "", nil, 0 },
		"without slots":              func(s *Spec) { s.Slots = nil },
		"without data and slots":     func(s *Spec) { s.Data, s.Moves, s.Symbols[4].At, s.Slots = "", nil, 0, nil },
		"without code and slots":     func(s *Spec) { s.Code, s.Init, s.Fini, s.Symbols[0].At, s.Slots = "", nil, nil, 0, nil },
		"without arrays":             func(s *Spec) { s.Init, s.Fini = nil, nil },
		"without what is run first":  func(s *Spec) { s.Init = nil },
		"without what is run last":   func(s *Spec) { s.Fini = nil },
		"without moves":              func(s *Spec) { s.Moves = nil },
		"without symbols":            func(s *Spec) { s.Symbols, s.Slots, s.Moves = nil, nil, s.Moves[2:3] },
		"without a name":             func(s *Spec) { s.Soname = "" },
		"bound at once":              func(s *Spec) { s.Now = true },
		"that stays":                 func(s *Spec) { s.Stays = true },
		"bound at once, that stays":  func(s *Spec) { s.Now, s.Stays = true, true },
		"of words alone":             func(s *Spec) { *s = Spec{Code: code(4), Init: []uint64{0, 4}} },
		"code up to a page's end":    func(s *Spec) { s.Code, s.Slots = code(256), nil },
		"stubs up to a page's end":   func(s *Spec) { s.Code = code(220) },
		"data up to a page's end":    func(s *Spec) { s.Data = data(232) },
		"data beyond a page's end":   func(s *Spec) { s.Data = data(240) },
		"slots alone":                func(s *Spec) { *s = Spec{Symbols: []Symbol{{Name: "f", Bind: 1}}, Slots: []int{0}} },
		"moves alone, of no symbols": func(s *Spec) { *s = Spec{Data: data(8), Moves: []Move{{Kind: 3, Add: 5}}} },
	} {
		t.Run(what, func(t *testing.T) { want(t, what, true, change) })
	}
}

// P16.1: how many there may be of each.
func TestCounts(t *testing.T) {
	for _, c := range []struct {
		what   string
		most   int
		change func(*Spec, int)
	}{
		{"Symbols", 40, func(s *Spec, n int) {
			s.Symbols = append(s.Symbols, times(n-len(s.Symbols), Symbol{Name: "more", Where: Data, At: 1})...)
		}},
		{"Symbols that aren't defined", 40, func(s *Spec, n int) { s.Symbols = append(s.Symbols, times(n-len(s.Symbols), Symbol{Name: "more"})...) }},
		{"Needed", 8, func(s *Spec, n int) { s.Needed = append(s.Needed, times(n-len(s.Needed), "libe")...) }},
		{"Moves", 60, func(s *Spec, n int) { s.Moves = append(s.Moves, times(n-len(s.Moves), Move{Kind: 2, At: 8})...) }},
		{"Slots", 20, func(s *Spec, n int) { s.Slots = append(s.Slots, times(n-len(s.Slots), 7)...) }},
		{"Init", 8, func(s *Spec, n int) { s.Init = append(s.Init, times(n-len(s.Init), uint64(12))...) }},
		{"Fini", 8, func(s *Spec, n int) { s.Fini = append(s.Fini, times(n-len(s.Fini), uint64(16))...) }},
	} {
		for _, n := range []int{c.most - 1, c.most, c.most + 1, c.most + 2, c.most * 2, 256 + 8, 1000} {
			want(t, c.what, n <= c.most, func(s *Spec) { c.change(s, n) })
		}
	}
}

// P16.1: how long names may be, and that they have no byte 0.
func TestNames(t *testing.T) {
	for _, c := range []struct {
		what   string
		empty  bool
		change func(*Spec, string)
	}{
		{"Soname", true, func(s *Spec, name string) { s.Soname = name }},
		{"Needed", false, func(s *Spec, name string) { s.Needed[2] = name }},
		{"Name", false, func(s *Spec, name string) { s.Symbols[0].Name = name }},
		{"Name of one that isn't defined", false, func(s *Spec, name string) { s.Symbols[3].Name = name }},
		{"Version", true, func(s *Spec, name string) { s.Symbols[2].Version = name }},
		{"Version that is needed", false, func(s *Spec, name string) { s.Symbols[1].Version = name }},
		{"From", false, func(s *Spec, name string) { s.Needed[2], s.Symbols[1].From = name, name }},
	} {
		want(t, c.what+", empty", c.empty, func(s *Spec) { c.change(s, "") })
		for _, n := range []int{1, 2, 31, 32, 33, 34, 64, 256 + 8, 1000} {
			want(t, c.what, n <= 32, func(s *Spec) { c.change(s, name(n)) })
			for _, at := range []int{0, n / 2, n - 1} {
				want(t, c.what+", with a byte 0", false, func(s *Spec) { c.change(s, name(at)+"\x00"+name(n-1-at)) })
			}
		}
		want(t, c.what+", of any bytes", true, func(s *Spec) { c.change(s, "\x01\xff \n/") })
	}
}

// P16.1: which Bind, Vis and Where a symbol may have.
func TestSymbolNumbers(t *testing.T) {
	for _, n := range []int{math.MinInt, -256, -2, -1, 0, 1, 2, 3, 4, 5, 16, 17, 256, 257, 1 << 32, 1<<32 + 1, math.MaxInt} {
		for k := range 8 {
			want(t, "Bind", n >= 0 && n <= 2, func(s *Spec) { s.Symbols[k].Bind = n })
			want(t, "Vis", n >= 0 && n <= 3, func(s *Spec) { s.Symbols[k].Vis = n })
		}
		want(t, "Where", n >= 0 && n <= 2, func(s *Spec) { s.Symbols[5].Where = n })
		want(t, "Where, of another one", n >= 0 && n <= 2, func(s *Spec) { s.Symbols[3].Where = n })
	}
}

// P16.1: at most where a symbol may be.
func TestSymbolAt(t *testing.T) {
	for _, at := range []uint64{0, 1, 15, 16, 17, 31, 32, 33, 4096, 1 << 32, 1 << 63, math.MaxUint64 - 1, math.MaxUint64} {
		want(t, "None", at == 0, func(s *Spec) { s.Symbols[3].At = at })
		want(t, "None, with a version", at == 0, func(s *Spec) { s.Symbols[1].At = at })
		want(t, "Code", at <= 16, func(s *Spec) { s.Symbols[0].At = at })
		want(t, "Data", at <= 32, func(s *Spec) { s.Symbols[2].At = at })
		want(t, "Code, of none", at == 0, func(s *Spec) {
			*s = Spec{Data: data(32), Symbols: []Symbol{{Name: "f", Where: Code, At: at}}}
		})
		want(t, "Data, of none", at == 0, func(s *Spec) {
			*s = Spec{Code: code(16), Symbols: []Symbol{{Name: "f", Where: Data, At: at}}}
		})
	}
}

// P16.1: which symbols may be from which files.
func TestFrom(t *testing.T) {
	for _, where := range []int{None, Code, Data} {
		for _, version := range []string{"", "V9"} {
			for from, needed := range map[string]bool{"": false, "libb": true, "libd": true, "lib": false, "libbb": false, "Libb": false, "liba": false, "\x00": false, name(33): false} {
				x := Symbol{Name: "f", Bind: 1, Where: where, Version: version, From: from}
				may := from == ""
				if where == None && version != "" {
					may = needed
				}
				want(t, "From "+from, may, func(s *Spec) { s.Symbols[0] = x })
				want(t, "From "+from, may, func(s *Spec) { s.Symbols = append(s.Symbols, x) })
			}
		}
	}
	x := Symbol{Name: "f", Bind: 1, Version: "V1", From: "libb"}
	wantArg(t, "nothing is needed", Spec{Symbols: []Symbol{x}})
	wantMade(t, "twice needed", Spec{Symbols: []Symbol{x}, Needed: []string{"libb", "libb"}})
	wantMade(t, "the last one", Spec{Symbols: []Symbol{x}, Needed: append(times(7, "libc"), "libb")})
	x.From = ""
	wantArg(t, "a Version without From", Spec{Symbols: []Symbol{x}, Needed: []string{"libb"}})
	wantArg(t, "an empty name isn't needed", Spec{Symbols: []Symbol{x}, Needed: []string{""}})
}

// P16.1: how long code and data may be.
func TestLengths(t *testing.T) {
	bytes := strings.Repeat("\x13\x00\x00\x00", 4000)
	for _, n := range []int{0, 1, 2, 3, 4, 5, 6, 7, 8, 12, 16, 20, 250, 252, 256, 260, 4088, 4090, 4092, 4095, 4096, 4097, 4100, 4104, 8192, 16000} {
		wantBytes := func(what string, of int, s Spec) {
			t.Helper()
			if n <= 4096 && n%of == 0 {
				wantMade(t, what, s)
			} else {
				wantArg(t, what, s)
			}
		}
		wantBytes("Code", 4, Spec{Code: bytes[:n]})
		wantBytes("Data", 8, Spec{Data: bytes[:n]})
		wantBytes("Code, with more", 4, Spec{Code: bytes[:n], Data: data(8), Symbols: []Symbol{{Name: "f"}}, Slots: []int{0}})
		wantBytes("Data, with more", 8, Spec{Data: bytes[:n], Code: code(8), Symbols: []Symbol{{Name: "f"}}, Slots: []int{0}})
	}
}

// P16.1: which Moves there may be.
func TestMoves(t *testing.T) {
	for _, n := range []int{math.MinInt, -3, -1, 0, 1, 2, 3, 4, 5, 6, 7, 8, 256 + 2, 1<<32 + 2, math.MaxInt} {
		want(t, "Kind", n >= 2 && n <= 4, func(s *Spec) { s.Moves[0].Kind, s.Moves[0].Sym = n, 0 })
		for _, kind := range []int{2, 4} {
			want(t, "Sym", n >= 0 && n < 8, func(s *Spec) { s.Moves[1].Kind, s.Moves[1].Sym = kind, n })
			want(t, "Sym of none", false, func(s *Spec) { *s = Spec{Data: data(8), Moves: []Move{{Kind: kind, Sym: n}}} })
		}
		want(t, "Sym of a Relative one", n == 0, func(s *Spec) { s.Moves[2].Sym = n })
		want(t, "Sym of a Relative one, of none", n == 0, func(s *Spec) { *s = Spec{Data: data(8), Moves: []Move{{Kind: 3, Sym: n}}} })
	}
	for _, at := range []uint64{0, 1, 4, 7, 8, 9, 12, 16, 23, 24, 25, 28, 31, 32, 33, 40, 4096, 1 << 32, 1 << 63, math.MaxUint64 - 7, math.MaxUint64} {
		for k := range 4 {
			want(t, "At", at%8 == 0 && at < 32, func(s *Spec) { s.Moves[k].At = at })
		}
		want(t, "At, of no data", false, func(s *Spec) { *s = Spec{Code: code(8), Moves: []Move{{Kind: 3, At: at}}} })
	}
	for _, add := range []uint64{0, 1, 1 << 63, math.MaxUint64} {
		want(t, "Add", true, func(s *Spec) { s.Moves = times(3, Move{Kind: 2, At: 8, Sym: 1, Add: add}) })
	}
}

// P16.1: which symbols slots may be of, and where what is run may begin.
func TestSlotsAndArrays(t *testing.T) {
	for _, n := range []int{math.MinInt, -1, 0, 1, 7, 8, 9, 39, 40, 256, 1 << 32, math.MaxInt} {
		for k := range 3 {
			want(t, "Slots", n >= 0 && n < 8, func(s *Spec) { s.Slots[k] = n })
		}
		want(t, "Slots of none", false, func(s *Spec) { *s = Spec{Slots: []int{n}} })
	}
	for _, at := range []uint64{0, 1, 2, 3, 4, 6, 8, 12, 13, 15, 16, 17, 18, 20, 32, 4096, 1 << 32, 1 << 63, math.MaxUint64 - 3, math.MaxUint64} {
		may := at%4 == 0 && at <= 16
		want(t, "Init", may, func(s *Spec) { s.Init[1] = at })
		want(t, "Fini", may, func(s *Spec) { s.Fini[0] = at })
		want(t, "Init, last", may, func(s *Spec) { s.Init = append(s.Init, 0, 0, at) })
		want(t, "Fini, last", may, func(s *Spec) { s.Fini = append(s.Fini, 0, 0, at) })
		want(t, "Init without code", at == 0, func(s *Spec) { *s = Spec{Data: data(32), Init: []uint64{at}} })
		want(t, "Fini without code", at == 0, func(s *Spec) { *s = Spec{Data: data(32), Fini: []uint64{at}} })
	}
}

// P16.1, P16.2: at which address each Load begins, and each part is: the tables at 0, and each further Load with the page behind
// the Load ahead of it.
func TestLoadsBegin(t *testing.T) {
	undefined := []Symbol{{Name: "f", Bind: 1}}
	for _, c := range []struct {
		what  string
		spec  Spec
		loads []uint64
		plan  Plan
	}{
		{"empty", Spec{}, []uint64{0, 256},
			Plan{Code: 256, Stubs: 256, Arrays: 256, Slots: 512, Data: 512}},
		{"code", Spec{Code: code(8)}, []uint64{0, 256, 512},
			Plan{Code: 256, Stubs: 264, Arrays: 512, Slots: 768, Data: 768}},
		{"a page of code", Spec{Code: code(256)}, []uint64{0, 256, 512},
			Plan{Code: 256, Stubs: 512, Arrays: 512, Slots: 768, Data: 768}},
		{"the most code", Spec{Code: code(4096)}, []uint64{0, 256, 4352},
			Plan{Code: 256, Stubs: 4352, Arrays: 4352, Slots: 4608, Data: 4608}},
		{"data", Spec{Data: data(8)}, []uint64{0, 256, 512},
			Plan{Code: 256, Stubs: 256, Arrays: 256, Slots: 512, Data: 512}},
		{"code and data", Spec{Code: code(260), Data: data(8)}, []uint64{0, 256, 768, 1024},
			Plan{Code: 256, Stubs: 516, Arrays: 768, Slots: 1024, Data: 1024}},
		{"a slot alone", Spec{Symbols: undefined, Slots: []int{0}}, []uint64{0, 256, 512, 768},
			Plan{Code: 256, Stubs: 256, Arrays: 512, Slots: 768, Data: 776}},
		// Of either hash table the tables are more than 29 pages, and at most 30.
		{"greatest", greatest(), []uint64{0, 7680, 12032, 12800},
			Plan{Code: 7680, Stubs: 11776, Arrays: 12032, Slots: 12800, Data: 12960}},
	} {
		for _, s := range both(c.spec) {
			a := built(t, s)
			var loads []uint64
			for g := range a.image.Of(head.Load) {
				loads = append(loads, g.Addr)
			}
			if !slices.Equal(loads, c.loads) {
				t.Errorf("%s: Loads at %d, not %d", c.what, loads, c.loads)
			}
			if perm, ok := a.image.Perm(0); perm != 4 || !ok {
				t.Errorf("%s: page 0: %d %t", c.what, perm, ok)
			}
			got := a.plan
			got.Index = nil
			if !reflect.DeepEqual(got, c.plan) {
				t.Errorf("%s: %+v, not %+v", c.what, got, c.plan)
			}
		}
	}
}

// P16.1: how far the parts of a plan are from one another.
func TestPlan(t *testing.T) {
	s := plain()
	_, p, _ := Build(s)
	if p.Stubs != p.Code+16 || p.Arrays != p.Code+256 || p.Slots <= p.Arrays || p.Slots%256 != 0 || p.Data != p.Slots+24 {
		t.Errorf("plain: %+v", p)
	}
	s.Code, s.Slots = code(256), nil
	_, p, _ = Build(s)
	if p.Stubs != p.Code+256 || p.Arrays != p.Stubs || p.Data != p.Slots {
		t.Errorf("a page of code: %+v", p)
	}
	s.Code = code(260)
	_, p, _ = Build(s)
	if p.Stubs != p.Code+260 || p.Arrays != p.Code+512 {
		t.Errorf("more than a page of code: %+v", p)
	}
}

// P16.2: symbols of one name stand in the spec's order, whether they are defined or not, among others and alone.
func TestOneName(t *testing.T) {
	kinds := []Symbol{{Name: "f", Bind: 1}, {Name: "f", Bind: 1, Where: Code}, {Name: "f", Bind: 2, Where: Data, At: 8, Version: "V1"}, {Name: "f", Version: "V2", From: "libb"}}
	others := []Symbol{{Name: "a", Where: Code}, {Name: "b"}, {Name: "c", Where: Code}, {Name: "d"}, {Name: "e", Where: Data}}
	for n := range 256 {
		var alone, among []Symbol
		for k := range 4 {
			x := kinds[n>>(2*k)&3]
			alone = append(alone, x)
			among = append(append(among, x), others[k:k+2]...)
		}
		for _, l := range [][]Symbol{alone, among} {
			wantMade(t, "one name", Spec{Needed: []string{"libb"}, Code: code(8), Data: data(8), Symbols: l})
		}
	}
	wantMade(t, "so many", Spec{Code: code(8), Symbols: times(40, Symbol{Name: "f", Bind: 1, Where: Code})})
	wantMade(t, "so many that aren't defined", Spec{Symbols: times(40, Symbol{Name: "f", Bind: 1})})
}

// P16.2: with GNU's hash table, what isn't defined stands ahead of what is, but for one of the name of a defined one ahead of it.
func TestAhead(t *testing.T) {
	s := Spec{Gnu: true, Code: code(4), Symbols: []Symbol{
		{Name: "f", Where: Code}, {Name: "g"}, {Name: "h", Where: Code}, {Name: "f"}, {Name: "i"}, {Name: "i", Where: Code}, {Name: "j"},
	}}
	a := built(t, s)
	for k, want := range map[int]int{1: 1, 4: 2, 6: 3} {
		if got := a.plan.Index[k]; got != want {
			t.Errorf("%d: %d, not %d", k, got, want)
		}
	}
	x, _ := gnu.Read(a.toEnd(a.value(dyn.GnuHash)))
	if x.First != 4 {
		t.Error(x.First)
	}
	s.Gnu = false
	if a := built(t, s); !slices.Equal(a.plan.Index, []int{1, 2, 3, 4, 5, 6, 7}) {
		t.Error(a.plan.Index)
	}
}

// P16.2: the bytes of versions, number by number: of the last one 0 tells how far the next one is.
func TestVersionBytes(t *testing.T) {
	s := Spec{Needed: []string{"b", "c"}, Code: code(4), Symbols: []Symbol{
		{Name: "f", Where: Code, Version: "a"}, {Name: "f", Version: "a", From: "b"}, {Name: "f", Version: "ab", From: "b"},
		{Name: "f", Where: Code, Version: "ab", Hidden: true}, {Name: "f", Version: "a", From: "c"}, {Name: "f"},
	}}
	quad := func(n int) string { return le.Put(uint64(n), 4) }
	pair := func(n int) string { return le.Put(uint64(n), 2) }
	a := built(t, s)
	place := func(text string) string { return quad(strings.Index(a.names(), "\x00"+text+"\x00") + 1) }
	def := func(number, next, hash int, name string) string {
		return pair(1) + pair(0) + pair(number) + pair(1) + quad(hash) + quad(20) + quad(next) + place(name) + quad(0)
	}
	file := func(versions, next int, name string) string {
		return pair(1) + pair(versions) + place(name) + quad(16) + quad(next)
	}
	need := func(number, next, hash int, name string) string {
		return quad(hash) + pair(0) + pair(number) + place(name) + quad(next)
	}
	for tag, want := range map[uint64]string{
		dyn.VerDef: def(2, 28, 97, "a") + def(3, 0, 1650, "ab"),
		dyn.VerNeed: file(2, 48, "b") + need(4, 16, 97, "a") + need(5, 0, 1650, "ab") +
			file(1, 0, "c") + need(6, 0, 97, "a"),
		dyn.VerSym: pair(1) + pair(2) + pair(4) + pair(5) + pair(0x8003) + pair(6) + pair(1),
	} {
		if got := a.bytes(a.value(tag), size(want)); got != want {
			t.Errorf("%#x: %x, not %x", tag, got, want)
		}
	}
}

// P16.2: the versions of symbols of the same names, of one file and of several ones.
func TestVersions(t *testing.T) {
	s := Spec{Needed: []string{"libb", "libc", "libb"}, Code: code(4)}
	for _, from := range []string{"libc", "libb", "", "libc"} {
		for _, version := range []string{"V2", "V1", "libb", "V2"} {
			x := Symbol{Name: "f" + from, Bind: 1, Version: version, From: from}
			if from == "" {
				x.Where = Code
			}
			s.Symbols = append(s.Symbols, x, Symbol{Name: "g", Hidden: from == ""})
		}
	}
	wantMade(t, "of several", s)
	hidden := []Symbol{{Name: "f", Where: Code, Hidden: true}, {Name: "g"}, {Name: "h", Hidden: true}, {Name: "i", Where: Code}}
	for _, x := range both(Spec{Code: code(4), Symbols: hidden}) {
		a := built(t, x)
		numbers := a.versions().Numbers
		if _, ok := a.table.Get(dyn.VerSym); !ok || len(numbers) != 5 {
			t.Fatal(numbers)
		}
		for k, want := range []int{0x8001, 1, 0x8001, 1} {
			if got := numbers[a.plan.Index[k]]; got != want {
				t.Errorf("%d: %#x, not %#x", k, got, want)
			}
		}
	}
	for what, l := range map[string][]Symbol{
		"defined ones": {{Name: "f", Where: Code, Version: "V1"}, {Name: "f", Where: Code, Version: "V2", Hidden: true}, {Name: "g"}},
		"needed ones":  {{Name: "f", Version: "V1", From: "libc"}, {Name: "g", Version: "V1", From: "libb"}, {Name: "g"}},
		"without any":  {{Name: "f", Where: Code}, {Name: "g"}},
	} {
		s.Symbols = l
		wantMade(t, what, s)
	}
	var forty []Symbol
	for k := range 40 {
		forty = append(forty, Symbol{Name: "f", Where: Code, Version: "V" + string(rune('A'+k))})
	}
	wantMade(t, "forty of one name", Spec{Code: code(4), Symbols: forty})
	for k := range forty {
		forty[k].Where, forty[k].From = None, s.Needed[k%2]
	}
	wantMade(t, "forty that are needed", Spec{Needed: s.Needed, Symbols: forty})
}

// P16.3: the stubs of all codes that may be.
func TestStub(t *testing.T) {
	for code := 0; code <= 4096; code += 4 {
		for slot := range 20 {
			if got := Stub(code, slot); got != code+slot*12 {
				t.Errorf("%d, %d: %d", code, slot, got)
			}
		}
	}
}

// P16.2: a stub's first two instructions share how far the word of its slot is, be it near or far, ahead or behind.
func TestStubFar(t *testing.T) {
	for _, far := range []int64{0, 8, 2040, 2047, 2048, 2056, 4088, 4096, 6136, 6144, 1 << 20, 1<<31 - 2056, -8, -2048, -2056, -4096, -1 << 31} {
		at := uint64(1 << 40)
		var l []inst.Inst
		for _, w := range le.Each(stub(at, at+uint64(far)), 4) {
			x, _ := inst.Decode(uint32(le.Get(w)))
			l = append(l, x)
		}
		if l[0].Op != inst.Auipc || l[1].Op != inst.Ld || l[2].Op != inst.Jalr || l[0].Imm+l[1].Imm != far {
			t.Errorf("%d: %+v", far, l)
		}
	}
}

// P16.2, P16.3: a stub, when it is run, goes on where the word of its slot says, and changes nothing but register 28.
func TestStubsRun(t *testing.T) {
	for n := 0; n <= 4096; n += 252 {
		s := Spec{Code: code(n), Data: data(8), Symbols: []Symbol{{Name: "f", Bind: 1}}, Slots: times(20, 0), Init: times(8, uint64(0))}
		b, p, _ := Build(s)
		i, _ := head.Read(b)
		for _, base := range []uint64{0, api.Low, 1 << 31} {
			m, _ := vmem.New(api.MaxPages)
			for g := range i.Of(head.Load) {
				bytes, _ := i.At(g.Addr, g.Mem)
				m.Map(base+g.Addr, int(up(g.Mem)/256), g.Perm)
				m.Poke(base+g.Addr, bytes)
			}
			for k := range s.Slots {
				target := api.Traps + 8*uint64(k)
				m.Store(base+p.Slots+8*uint64(k), target, 8)
				x := cpu.State{PC: base + p.Code + uint64(Stub(n, k))}
				for r := range x.X {
					x.X[r] = uint64(r) << 33
				}
				want := x
				want.X[28], want.PC = target, target
				got, steps, event, f := cpu.Run(m, x, 9)
				if got != want || steps != 3 || event != cpu.Trap || !f.OK() {
					t.Fatalf("%d bytes of code, slot %d: %+v %d %v %s", n, k, got, steps, event, f.Text())
				}
			}
		}
	}
}

// Rules: what is handed in isn't changed, and not kept; an answer is new memory, and the same again.
func TestNewMemory(t *testing.T) {
	for _, isGnu := range []bool{false, true} {
		s, kept := plain(), plain()
		s.Gnu, kept.Gnu = isGnu, isGnu
		s.Needed = append(s.Needed, "room")[:3]
		s.Init = append(s.Init, 99)[:2]
		file, plan, _ := Build(s)
		if !reflect.DeepEqual(s, kept) || s.Needed[:4][3] != "room" || s.Init[:3][2] != 99 {
			t.Errorf("changed: %+v", s)
		}
		index := slices.Clone(plan.Index)
		plan.Index[0] = 77
		s.Symbols[0].Name, s.Slots[0], s.Needed[0] = "other", 1, "other"
		again, plan, _ := Build(kept)
		if again != file || !slices.Equal(plan.Index, index) {
			t.Error("not the same again")
		}
	}
}

// pick one of some, by chance.
func pick[T any](r *rand.Rand, l ...T) T { return l[r.Intn(len(l))] }

// some elements, at most so many, each made anew.
func some[T any](r *rand.Rand, most int, make func() T) []T {
	var l []T
	for range r.Intn(most + 1) {
		l = append(l, make())
	}
	return l
}

// chance: a spec that may be.
func chance(r *rand.Rand) Spec {
	few := func(most int) int { return pick(r, 0, r.Intn(3), r.Intn(most+1), most) }
	word := func() string { return pick(r, "a", "b", "c", "d", "lib", "V1", "V2", name(32), name(1+r.Intn(32))) }
	s := Spec{Gnu: r.Intn(2) > 0, Now: r.Intn(2) > 0, Stays: r.Intn(2) > 0}
	s.Soname = pick(r, "", word())
	s.Needed = some(r, few(8), word)
	s.Code, s.Data = code(4*few(1024)), data(8*few(512))
	s.Symbols = some(r, few(40), func() Symbol {
		x := Symbol{Name: word(), Hidden: r.Intn(8) == 0, Bind: r.Intn(3), Vis: r.Intn(4), Where: r.Intn(3)}
		switch x.Where {
		case Code:
			x.At = uint64(r.Intn(len(s.Code) + 1))
		case Data:
			x.At = uint64(r.Intn(len(s.Data) + 1))
		}
		if r.Intn(3) == 0 && (x.Where != None || len(s.Needed) > 0) {
			x.Version = word()
			if x.Where == None {
				x.From = pick(r, s.Needed...)
			}
		}
		return x
	})
	if len(s.Symbols) > 0 {
		s.Slots = some(r, few(20), func() int { return r.Intn(len(s.Symbols)) })
	}
	if len(s.Data) > 0 {
		s.Moves = some(r, few(60), func() Move {
			x := Move{Kind: 3, At: 8 * uint64(r.Intn(len(s.Data)/8)), Add: r.Uint64()}
			if len(s.Symbols) > 0 && r.Intn(3) > 0 {
				x.Kind, x.Sym = pick(r, 2, 4), r.Intn(len(s.Symbols))
			}
			return x
		})
	}
	entry := func() uint64 { return 4 * uint64(r.Intn(len(s.Code)/4+1)) }
	s.Init, s.Fini = some(r, few(8), entry), some(r, few(8), entry)
	return s
}

// P16.1, P16.2: many specs by chance, always the same ones.
func TestChance(t *testing.T) {
	r := rand.New(rand.NewSource(16))
	for range 4000 {
		built(t, chance(r))
	}
}
