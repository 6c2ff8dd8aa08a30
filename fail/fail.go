// Package fail is layer 2: see shared/doc/02-fail.md.
package fail

import (
	"strconv"
	"strings"

	"turnbuckle/api"
)

// Fault: an error's number, the address that it is of, a name that it is of.
type Fault struct {
	Code api.Errno
	At   uint64
	Name string
}

// words of the errors' numbers, by these from 0 on.
var words = [...]string{
	"ok", "argument", "short", "magic", "form", "range", "limit",
	"space", "mapped", "hole", "read", "write", "exec", "align",
	"code", "break", "fuel", "depth", "none", "needed", "symbol",
	"version", "reloc", "handle", "syntax", "name", "double",
}

// Of a number alone.
func Of(e api.Errno) Fault { return Fault{Code: e} }

// At an address.
func At(e api.Errno, at uint64) Fault { return Fault{Code: e, At: at} }

// With a name.
func With(e api.Errno, name string) Fault { return Fault{Code: e, Name: name} }

// OK: is there none?
func (f Fault) OK() bool { return f.Code == api.OK }

// Text of a fault.
func (f Fault) Text() string {
	s := Word(f.Code)
	if f.Name != "" {
		s += " " + f.Name
	}
	if f.At != 0 {
		s += " at 0x" + strconv.FormatUint(f.At, 16)
	}
	return s
}

// Parse the text of a fault.
func Parse(s string) (Fault, bool) {
	parts := strings.Split(s, " ")
	code, ok := numbered(parts[0])
	if !ok {
		return Fault{}, false
	}
	f := Fault{Code: code}
	rest := parts[1:]
	if n := len(rest); n >= 2 {
		f.At = address(rest[n-1])
		rest = rest[:n-2]
	}
	if len(rest) == 1 {
		f.Name = rest[0]
	}
	// What was taken apart too freely above isn't the same when it is told again.
	if !plain(f.Name) || f.Text() != s {
		return Fault{}, false
	}
	return f, true
}

// Word of an error's number.
func Word(e api.Errno) string {
	if e < 0 || int(e) >= len(words) {
		return "unknown"
	}
	return words[e]
}

// First of some faults that is one.
func First(l ...Fault) Fault {
	for _, f := range l {
		if !f.OK() {
			return f
		}
	}
	return Fault{}
}

// numbered: the error's number that has a word.
func numbered(word string) (api.Errno, bool) {
	for i, w := range words {
		if w == word {
			return api.Errno(i), true
		}
	}
	return 0, false
}

// address of hexadecimal digits behind 0x; 0, which no text tells, where it is none.
func address(s string) uint64 {
	n, err := strconv.ParseUint(strings.TrimPrefix(s, "0x"), 16, 64)
	if err != nil {
		return 0
	}
	return n
}

// plain: has a name only bytes that can be told apart in a line?
func plain(name string) bool {
	for i := range len(name) {
		if name[i] < 33 || name[i] > 126 {
			return false
		}
	}
	return true
}
