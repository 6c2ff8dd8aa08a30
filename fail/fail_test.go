package fail

import (
	"math"
	"slices"
	"strings"
	"testing"

	"turnbuckle/api"
)

// wordOf says the words beside the constants' names, apart from the program's table.
var wordOf = []struct {
	e    api.Errno
	word string
}{
	{api.OK, "ok"},
	{api.ErrArg, "argument"},
	{api.ErrShort, "short"},
	{api.ErrMagic, "magic"},
	{api.ErrForm, "form"},
	{api.ErrRange, "range"},
	{api.ErrLimit, "limit"},
	{api.ErrSpace, "space"},
	{api.ErrMapped, "mapped"},
	{api.ErrHole, "hole"},
	{api.ErrRead, "read"},
	{api.ErrWrite, "write"},
	{api.ErrExec, "exec"},
	{api.ErrAlign, "align"},
	{api.ErrCode, "code"},
	{api.ErrBreak, "break"},
	{api.ErrFuel, "fuel"},
	{api.ErrDepth, "depth"},
	{api.ErrNone, "none"},
	{api.ErrNeeded, "needed"},
	{api.ErrSymbol, "symbol"},
	{api.ErrVersion, "version"},
	{api.ErrReloc, "reloc"},
	{api.ErrHandle, "handle"},
	{api.ErrSyntax, "syntax"},
	{api.ErrName, "name"},
	{api.ErrDouble, "double"},
}

var noErrors = []api.Errno{math.MinInt, -27, -1, 27, 28, 1 << 32, math.MaxInt}

// P2.1.
func TestWord(t *testing.T) {
	for i, c := range wordOf {
		if got := Word(c.e); got != c.word || int(c.e) != i {
			t.Errorf("Word(%d) = %q", c.e, got)
		}
	}
	for _, e := range noErrors {
		if got := Word(e); got != "unknown" {
			t.Errorf("Word(%d) = %q", e, got)
		}
	}
}

// P2.1.
func TestMade(t *testing.T) {
	all := slices.Clone(noErrors)
	for _, c := range wordOf {
		all = append(all, c.e)
	}
	for _, e := range all {
		if f := Of(e); f != (Fault{Code: e}) {
			t.Error("Of", e, f)
		}
		for _, at := range []uint64{0, 1, math.MaxUint64} {
			if f := At(e, at); f != (Fault{Code: e, At: at}) {
				t.Error("At", e, at, f)
			}
		}
		for _, name := range []string{"", "puts", "a b\x00\xff"} {
			if f := With(e, name); f != (Fault{Code: e, Name: name}) {
				t.Error("With", e, name, f)
			}
		}
		if got := (Fault{Code: e, At: 1, Name: "a"}).OK(); got != (e == 0) {
			t.Error("OK", e, got)
		}
	}
	if !(Fault{}).OK() {
		t.Error("the zero fault is one")
	}
}

// P2.1.
func TestFirst(t *testing.T) {
	a := Fault{Code: api.ErrHole, At: 8, Name: "a"}
	b := With(api.ErrSymbol, "b")
	odd := Of(-1)
	fine := Fault{Code: api.OK, At: 8, Name: "fine"}
	for i, c := range []struct {
		l    []Fault
		want Fault
	}{
		{nil, Fault{}},
		{[]Fault{}, Fault{}},
		{[]Fault{{}, fine, {}}, Fault{}},
		{[]Fault{a}, a},
		{[]Fault{a, b}, a},
		{[]Fault{b, a}, b},
		{[]Fault{{}, fine, b, a, {}}, b},
		{[]Fault{fine, odd, a}, odd},
	} {
		kept := slices.Clone(c.l)
		if got := First(c.l...); got != c.want {
			t.Error(i, got)
		}
		if !slices.Equal(kept, c.l) {
			t.Error(i, "what was handed in is changed")
		}
	}
	if got := First(); got != (Fault{}) {
		t.Error(got)
	}
}

// P2.2.
func TestText(t *testing.T) {
	for _, c := range []struct {
		f    Fault
		want string
	}{
		{Fault{}, "ok"},
		{With(api.ErrSymbol, "puts"), "symbol puts"},
		{At(api.ErrHole, 65536), "hole at 0x10000"},
		{Fault{api.ErrSymbol, 16, "puts"}, "symbol puts at 0x10"},
		{Fault{api.OK, 1, "a"}, "ok a at 0x1"},
		{At(api.ErrHole, 0), "hole"},
		{At(api.ErrHole, 0xabcdef), "hole at 0xabcdef"},
		{At(api.ErrHole, math.MaxUint64), "hole at 0xffffffffffffffff"},
		{With(api.ErrName, ""), "name"},
		{With(api.ErrName, " a\nb\xff "), "name  a\nb\xff "},
		{Fault{-1, 10, "x"}, "unknown x at 0xa"},
		{Of(27), "unknown"},
	} {
		if got := c.f.Text(); got != c.want {
			t.Errorf("%v: %q", c.f, got)
		}
	}
}

// P2.3: what has a text that may be parsed comes back.
func TestParseBack(t *testing.T) {
	names := []string{"", "a", "puts", "!", "~", "at", "0x10", "0x0", "ok", "unknown", "a,b;c", strings.Repeat("n", 1000)}
	places := []uint64{0, 1, 10, 16, 255, 65536, 0xabcdef, 1 << 63, math.MaxUint64}
	for _, c := range wordOf {
		for _, name := range names {
			for _, at := range places {
				f := Fault{Code: c.e, At: at, Name: name}
				if got, ok := Parse(f.Text()); !ok || got != f {
					t.Errorf("Parse(%q) = %v %v", f.Text(), got, ok)
				}
			}
		}
	}
}

// P2.3: each byte in a name.
func TestParseName(t *testing.T) {
	for b := range 256 {
		f := With(api.ErrSymbol, "a"+string([]byte{byte(b)})+"z")
		got, ok := Parse(f.Text())
		if b >= 33 && b <= 126 {
			if !ok || got != f {
				t.Errorf("the byte %d: %v %v", b, got, ok)
			}
		} else if ok || got != (Fault{}) {
			t.Errorf("the byte %d: %v %v", b, got, ok)
		}
	}
}

// P2.3: texts of no fault.
func TestParseWrong(t *testing.T) {
	for _, s := range []string{
		"", " ", "  ", "what", "unknown", "unknown a", "unknown at 0x10", "OK", "Symbol", "symbolx", "symbo", "0", "20",
		" symbol", "symbol ", "symbol  ", "symbol\n", "symbol\ta", "symbol a ", "symbol  a", "symbol a b", "symbol a b c", "symbol a b c d",
		"hole at ", "hole at 0x", "hole at 0x0", "hole at 0x00", "hole at 0x01", "hole at 0x0a", "hole at 10", "hole at a", "hole at x10",
		"hole at 0X10", "hole at 0xA", "hole at 0xaB", "hole at 0xg", "hole at 0x-1", "hole at 0x+1", "hole at 0x1_0", "hole at 0x 1", "hole at 0x0x1",
		"hole at 0x10000000000000000", "hole at 0xffffffffffffffffff", "hole at 0x10 ", "hole at 0x10\n", "hole  at 0x10", "hole at  0x10", "holeat 0x10",
		"hole to 0x10", "hole a to 0x10", "hole 0x10 at", "hole a  at 0x10", "hole a at  0x10", "hole a at 0x0", "hole at 0x10 at 0x10", "hole at 0x10 a",
		"hole at at", "hole a b at 0x10", "at 0x10", "0x10", "hole \x00", "hole a\x1f", "hole \x7f", "hole \x80", "hole \xff at 0x10", "hole \u00e9",
	} {
		if got, ok := Parse(s); ok || got != (Fault{}) {
			t.Errorf("Parse(%q) = %v %v", s, got, ok)
		}
	}
}

// P2.3: these look alike, but each is one fault's text alone.
func TestParseAlike(t *testing.T) {
	for _, c := range []struct {
		s    string
		want Fault
	}{
		{"ok", Fault{}},
		{"ok at 0x1", At(api.OK, 1)},
		{"symbol at", With(api.ErrSymbol, "at")},
		{"symbol 0x10", With(api.ErrSymbol, "0x10")},
		{"symbol at 0x10", At(api.ErrSymbol, 16)},
		{"symbol at at 0x10", Fault{api.ErrSymbol, 16, "at"}},
		{"symbol symbol at 0xff", Fault{api.ErrSymbol, 255, "symbol"}},
	} {
		if got, ok := Parse(c.s); !ok || got != c.want {
			t.Errorf("Parse(%q) = %v %v", c.s, got, ok)
		}
	}
}
