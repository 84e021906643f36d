// Package word is layer 1: big-endian encoding of numbers and strings. See shared/doc/01-word.md.
package word

import (
	"slices"

	"counterpane/api"
)

// widest is how many bytes the widest number has.
const widest = 8

// maxField is how many bytes a field has at most: its first one tells a length of up to 255.
const maxField = 256

// Put returns b followed by the size lowest bytes of n in big-endian order.
func Put[T ~uint8 | ~uint16 | ~uint32 | ~uint64](b []byte, n T, size int) []byte {
	// A plain append might write into memory behind the length of b, which is the caller's.
	out := slices.Clone(b)
	for ; size > widest; size-- {
		out = append(out, 0)
	}
	for ; size > 0; size-- {
		out = append(out, byte(uint64(n)>>(8*(size-1))))
	}
	return out
}

// Get returns the big-endian number in b, modulo 2^64.
func Get(b []byte) uint64 {
	var n uint64
	for _, c := range b {
		n = n<<8 | uint64(c)
	}
	return n
}

// Text returns b followed by the field of s: its length in one byte, s, and zero bytes up to size.
func Text(b []byte, s string, size int) ([]byte, api.Code) {
	if size < 1 || size > maxField {
		return nil, api.ErrRange
	}
	if len(s) >= size {
		return nil, api.ErrSize
	}
	out := append(slices.Clone(b), byte(len(s)))
	out = append(out, s...)
	return append(out, make([]byte, size-1-len(s))...), api.OK
}

// Reader decodes bytes from the beginning to the end; after an error it returns nothing any more.
type Reader struct {
	left   []byte
	failed bool
}

// Read returns a reader at the beginning of b.
func Read(b []byte) *Reader {
	// The caller may change b while the reader is in use.
	return &Reader{left: slices.Clone(b)}
}

// Take returns the next n bytes.
func (r *Reader) Take(n int) []byte {
	if r.failed || n < 0 || n > len(r.left) {
		r.failed = true
		return nil
	}
	// The caller may write to the result; a copy of the reader may still have these bytes ahead.
	out := slices.Clone(r.left[:n])
	r.left = r.left[n:]
	return out
}

// Num returns the number in the next size bytes.
func (r *Reader) Num(size int) uint64 {
	return Get(r.Take(size))
}

// Text returns the string whose field is the next size bytes.
func (r *Reader) Text(size int) string {
	s, ok := parseField(r.Take(size))
	if !ok {
		r.failed = true
	}
	return s
}

// parseField returns the string whose field is b; false: b is no field.
func parseField(b []byte) (string, bool) {
	if len(b) == 0 {
		return "", false
	}
	length, rest := int(b[0]), b[1:]
	// Zero bytes only behind the string: otherwise one string would have several fields.
	if length > len(rest) || !allZero(rest[length:]) {
		return "", false
	}
	return string(rest[:length]), true
}

// Left returns how many bytes have not been consumed.
func (r *Reader) Left() int {
	return len(r.left)
}

// Right reports whether no error has occurred.
func (r *Reader) Right() bool {
	return !r.failed
}

// Noughts reports whether no error has occurred and all bytes that are left are 0.
func (r *Reader) Noughts() bool {
	return !r.failed && allZero(r.left)
}

func allZero(b []byte) bool {
	for _, c := range b {
		if c != 0 {
			return false
		}
	}
	return true
}
