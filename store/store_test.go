package store

import (
	"slices"
	"strings"
	"testing"

	"turnbuckle/api"
	"turnbuckle/fail"
	"turnbuckle/object"
	"turnbuckle/pack"
)

// named: a file's name, and its bytes.
type named struct{ name, bytes string }

// all files of a store.
func all(f *Files) []named {
	var l []named
	for name, bytes := range f.All() {
		l = append(l, named{name, bytes})
	}
	return l
}

// wantAll: a store has these files, in order, and none of these names.
func wantAll(t *testing.T, what string, f *Files, want []named, not ...string) {
	t.Helper()
	if l := all(f); !slices.Equal(l, want) {
		t.Errorf("%s: %q, not %q", what, l, want)
	}
	for _, x := range want {
		if b, ok := f.Bytes(x.name); b != x.bytes || !ok {
			t.Errorf("%s: %q has %q, %v", what, x.name, b, ok)
		}
	}
	for _, name := range not {
		if b, ok := f.Bytes(name); b != "" || ok {
			t.Errorf("%s: %q has %q, %v", what, name, b, ok)
		}
		wantFault(t, what, f, name, fail.With(api.ErrNone, name))
	}
}

// wantFault: a store has no object of a name.
func wantFault(t *testing.T, what string, f *Files, name string, want fail.Fault) {
	t.Helper()
	if o, g := f.Object(name); o != nil || g != want {
		t.Errorf("%s: %q: %v %q, not %q", what, name, o, g.Text(), want.Text())
	}
}

// wantAdd: what is told of a file that is added.
func wantAdd(t *testing.T, what string, f *Files, name, bytes string, want api.Errno) {
	t.Helper()
	if e := f.Add(name, bytes); e != want {
		t.Errorf("%s: %q, not %q", what, fail.Word(e), fail.Word(want))
	}
}

// full: a store with so many files as may be, and these.
func full(t *testing.T) (*Files, []named) {
	t.Helper()
	var f Files
	var l []named
	for i := range api.MaxFiles {
		x := named{string(rune('p' - i)), strings.Repeat("b", i)}
		wantAdd(t, "full", &f, x.name, x.bytes, api.OK)
		l = append(l, x)
	}
	return &f, l
}

// build a file that may be read.
func build(t *testing.T, soname string) string {
	t.Helper()
	s, _, e := pack.Build(pack.Spec{Soname: soname})
	if e != api.OK {
		t.Fatal(e)
	}
	return s
}

// P18.1, P18.2: the zero value has no files.
func TestZero(t *testing.T) {
	var f Files
	wantAll(t, "zero", &f, nil, "", "a", "a b", strings.Repeat("n", 33))
}

// P18.1, P18.2: of a nil *Files nothing.
func TestNil(t *testing.T) {
	var f *Files
	wantAdd(t, "nil", f, "a", "x", api.ErrArg)
	wantAdd(t, "nil", f, "", strings.Repeat("x", api.MaxFile+1), api.ErrArg)
	wantAll(t, "nil", f, nil, "", "a")
}

// P18.1: files, whatever their bytes are, in order.
func TestAdd(t *testing.T) {
	var f Files
	l := []named{{"b", "x"}, {"a", ""}, {"B", "x"}, {"lib.so/1~!", "a\x00b\xff"}, {"bb", strings.Repeat("x", api.MaxFile)}}
	for i, x := range l {
		wantAll(t, "so far", &f, l[:i], x.name, x.name+"x")
		wantAdd(t, "added", &f, x.name, x.bytes, api.OK)
	}
	wantAll(t, "all", &f, l, "", "c", "A", "b ", "b\x00")
}

// P18.1: a name's bytes, and how many there are.
func TestNames(t *testing.T) {
	for c := range 256 {
		for _, name := range []string{string([]byte{byte(c)}), "a" + string([]byte{byte(c)}), string([]byte{byte(c)}) + "a", "a" + string([]byte{byte(c)}) + "a"} {
			var f Files
			if c < 33 || c > 126 {
				wantAdd(t, "a byte", &f, name, "x", api.ErrName)
				wantAll(t, "a byte", &f, nil, name)
			} else {
				wantAdd(t, "a byte", &f, name, "x", api.OK)
				wantAll(t, "a byte", &f, []named{{name, "x"}})
			}
		}
	}
	for n, want := range map[int]api.Errno{0: api.ErrName, 1: api.OK, 31: api.OK, 32: api.OK, 33: api.ErrName, 1000: api.ErrName} {
		var f Files
		wantAdd(t, "how many", &f, strings.Repeat("n", n), "x", want)
	}
}

// P18.1: so many bytes as may be, and one more.
func TestMaxFile(t *testing.T) {
	var f Files
	most := strings.Repeat("x", api.MaxFile)
	wantAdd(t, "most", &f, "a", most, api.OK)
	wantAdd(t, "one more", &f, "b", most+"x", api.ErrLimit)
	wantAll(t, "most", &f, []named{{"a", most}}, "b")
}

// P18.1: so many files as may be, and one more.
func TestMaxFiles(t *testing.T) {
	f, l := full(t)
	wantAll(t, "full", f, l, "q")
	wantAdd(t, "one more", f, "q", "x", api.ErrLimit)
	wantAll(t, "one more", f, l, "q")
}

// P18.1: of several faults the one that is named first, and nothing is changed.
func TestOrder(t *testing.T) {
	much := strings.Repeat("x", api.MaxFile+1)
	var some Files
	wantAdd(t, "some", &some, "a", "x", api.OK)
	whole, l := full(t)
	for _, c := range []struct {
		what        string
		f           *Files
		name, bytes string
		want        api.Errno
	}{
		{"a wrong name, too many bytes", &some, "a b", much, api.ErrName},
		{"a wrong name, too many files", whole, "", "x", api.ErrName},
		{"a name that is there", &some, "a", "y", api.ErrDouble},
		{"a name that is there, the same bytes", &some, "a", "x", api.ErrDouble},
		{"a name that is there, too many bytes", &some, "a", much, api.ErrLimit},
		{"a name that is there, too many files", whole, "a", "y", api.ErrDouble},
		{"a name that is there, too many bytes and files", whole, "a", much, api.ErrLimit},
		{"too many bytes, too many files", whole, "q", much, api.ErrLimit},
	} {
		wantAdd(t, c.what, c.f, c.name, c.bytes, c.want)
	}
	wantAll(t, "some", &some, []named{{"a", "x"}}, "b")
	wantAll(t, "full", whole, l, "q", "")
}

// P18.2: the chapter's example, and other files that aren't any object's.
func TestFaults(t *testing.T) {
	var f Files
	b := build(t, "liba")
	// The second program header is that of a Load, too, which begins with the first one's page.
	twice := b[:64+56] + b[64:64+56] + b[64+2*56:]
	for _, c := range []struct {
		name, bytes string
		want        fail.Fault
	}{
		{"a", "x", fail.Fault{Code: api.ErrShort, Name: "a"}},
		{"empty", "", fail.Fault{Code: api.ErrShort, Name: "empty"}},
		{"magic", strings.Repeat("x", 64), fail.Fault{Code: api.ErrMagic, Name: "magic"}},
		{"twice", twice, fail.Fault{Code: api.ErrMapped, At: 64 + 56, Name: "twice"}},
	} {
		wantAdd(t, "added", &f, c.name, c.bytes, api.OK)
		for range 2 {
			wantFault(t, "no object", &f, c.name, c.want)
		}
		if _, g := object.Read(c.bytes); g.Code != c.want.Code || g.At != c.want.At {
			t.Error("read alone", g)
		}
	}
	wantFault(t, "none", &f, "b", fail.With(api.ErrNone, "b"))
	if fault := fail.With(api.ErrNone, "b").Text(); fault != "none b" {
		t.Error(fault)
	}
}

// P18.2: a file's object, the same one each time, also behind files that are added later.
func TestObject(t *testing.T) {
	var f Files
	var first []*object.Object
	for i := range api.MaxFiles {
		name := string(rune('a' + i))
		wantAdd(t, "added", &f, name, build(t, "lib"+name), api.OK)
		o, g := f.Object(name)
		if !g.OK() || o == nil || o.Soname != "lib"+name {
			t.Fatal(name, g, o)
		}
		first = append(first, o)
		for k, want := range first {
			if o, g := f.Object(string(rune('a' + k))); !g.OK() || o != want {
				t.Error("not the same", k, i, g)
			}
		}
	}
}

// P18.2: two files of the same bytes have objects of their own; so have two stores.
func TestAlone(t *testing.T) {
	var f, g Files
	b := build(t, "")
	for _, s := range []*Files{&f, &g} {
		wantAdd(t, "added", s, "a", b, api.OK)
		wantAdd(t, "added", s, "b", b, api.OK)
	}
	var l []*object.Object
	for _, s := range []*Files{&f, &g} {
		for _, name := range []string{"a", "b"} {
			o, _ := s.Object(name)
			if o == nil || slices.Contains(l, o) {
				t.Error("shared", name)
			}
			l = append(l, o)
		}
	}
}

// P18.2: All ends as soon as it is told to, and may be gone through again.
func TestAll(t *testing.T) {
	f, want := full(t)
	each := f.All()
	for n := range want {
		var l []named
		for name, bytes := range each {
			l = append(l, named{name, bytes})
			if len(l) == n+1 {
				break
			}
		}
		if !slices.Equal(l, want[:n+1]) {
			t.Error(n, l)
		}
	}
	wantAll(t, "again", f, want)
	var none *Files
	for range none.All() {
		t.Error("nil")
	}
}
