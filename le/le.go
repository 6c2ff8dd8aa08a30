// Package le is layer 1: see shared/doc/01-le.md.
package le

import "strings"

// mostSize is the greatest size of a number: more bytes don't go into a uint64.
const mostSize = 8

// isSize: is it a size that a number may have?
func isSize(size int) bool { return size >= 1 && size <= mostSize }

// Put: a number's bytes, the lowest first.
func Put(n uint64, size int) string {
	if !isSize(size) {
		return ""
	}
	b := make([]byte, size)
	for i := range size {
		b[i] = byte(n >> (8 * i))
	}
	return string(b)
}

// Get the number of bytes.
func Get(s string) uint64 {
	if len(s) > mostSize {
		return 0
	}
	var n uint64
	for i := range len(s) {
		n |= uint64(s[i]) << (8 * i)
	}
	return n
}

// At: the number of so many bytes at a place of a text.
func At(s string, at uint64, size int) (uint64, bool) {
	if !isSize(size) {
		return 0, false
	}
	p, ok := Part(s, at, uint64(size))
	return Get(p), ok
}

// With a number in so many bytes at a place of a text.
func With(s string, at uint64, n uint64, size int) (string, bool) {
	if !isSize(size) {
		return "", false
	}
	if _, ok := Part(s, at, uint64(size)); !ok {
		return "", false
	}
	return s[:at] + Put(n, size) + s[at+uint64(size):], true
}

// Text that ends with a byte 0, from a place on.
func Text(s string, at uint64, most int) (string, bool) {
	if at > uint64(len(s)) {
		return "", false
	}
	end := strings.IndexByte(s[at:], 0)
	if end < 0 || end > most {
		return "", false
	}
	return s[at : at+uint64(end)], true
}

// Part of a text.
func Part(s string, at, n uint64) (string, bool) {
	all := uint64(len(s))
	// at + n may go beyond 2^64, what is left behind at may not.
	if at > all || n > all-at {
		return "", false
	}
	return s[at : at+n], true
}

// Each part of so many bytes, with its number.
func Each(s string, size int) func(func(int, string) bool) {
	return func(yield func(int, string) bool) {
		if size < 1 {
			return
		}
		for i := range len(s) / size {
			if !yield(i, s[i*size:(i+1)*size]) {
				return
			}
		}
	}
}

// Extend a number of so many bits by its sign.
func Extend(n uint64, bits int) uint64 {
	if bits < 1 || bits > 63 {
		return n
	}
	above := 64 - bits
	// Moved down as a signed number, the highest of the bits fills what is above.
	return uint64(int64(n<<above) >> above)
}
