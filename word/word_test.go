package word_test

import (
	"bytes"
	"math"
	"strings"
	"testing"

	"counterpane/api"
	"counterpane/word"
)

type (
	tiny  uint8
	short uint16
	mid   uint32
	long  uint64
)

func wantBytes(t *testing.T, name string, got []byte, want ...byte) {
	t.Helper()
	if !bytes.Equal(got, want) {
		t.Errorf("%s: got %v, want %v", name, got, want)
	}
}

// wantState checks everything that a reader tells of itself.
func wantState(t *testing.T, name string, r *word.Reader, left int, right, noughts bool) {
	t.Helper()
	if r.Left() != left || r.Right() != right || r.Noughts() != noughts {
		t.Errorf("%s: Left %d, Right %v, Noughts %v, want %d, %v, %v",
			name, r.Left(), r.Right(), r.Noughts(), left, right, noughts)
	}
}

// spare returns b with memory of the caller's behind its length, and that memory.
func spare(b ...byte) ([]byte, []byte) {
	all := append(bytes.Clone(b), bytes.Repeat([]byte{0xEE}, 300)...)
	return all[:len(b)], all[len(b):]
}

func untouched(t *testing.T, name string, behind []byte) {
	t.Helper()
	for _, c := range behind {
		if c != 0xEE {
			t.Errorf("%s: memory behind the length of the argument was written", name)
			return
		}
	}
}

// 1.1: the lowest bytes, the highest of them first.
func TestPutLowestBytes(t *testing.T) {
	const n = 0x0102030405060708
	wantBytes(t, "513 in 3", word.Put(nil, uint32(513), 3), 0, 2, 1)
	wantBytes(t, "uint64 in 8", word.Put(nil, uint64(n), 8), 1, 2, 3, 4, 5, 6, 7, 8)
	wantBytes(t, "uint64 in 7", word.Put(nil, uint64(n), 7), 2, 3, 4, 5, 6, 7, 8)
	wantBytes(t, "uint64 in 3", word.Put(nil, uint64(n), 3), 6, 7, 8)
	wantBytes(t, "uint64 in 1", word.Put(nil, uint64(n), 1), 8)
	wantBytes(t, "uint32 in 4", word.Put(nil, uint32(0xA1B2C3D4), 4), 0xA1, 0xB2, 0xC3, 0xD4)
	wantBytes(t, "uint32 in 2", word.Put(nil, uint32(0xA1B2C3D4), 2), 0xC3, 0xD4)
	wantBytes(t, "uint16 in 2", word.Put(nil, uint16(0xA1B2), 2), 0xA1, 0xB2)
	wantBytes(t, "uint16 in 1", word.Put(nil, uint16(0xA1B2), 1), 0xB2)
	wantBytes(t, "uint8 in 1", word.Put(nil, uint8(0xFE), 1), 0xFE)
	wantBytes(t, "greatest", word.Put(nil, uint64(math.MaxUint64), 8), 255, 255, 255, 255, 255, 255, 255, 255)
	wantBytes(t, "zero", word.Put(nil, uint64(0), 2), 0, 0)
}

// 1.1: b stands ahead.
func TestPutAppends(t *testing.T) {
	wantBytes(t, "behind two", word.Put([]byte{7, 9}, uint16(0x1234), 2), 7, 9, 0x12, 0x34)
	wantBytes(t, "behind none", word.Put([]byte{}, uint16(0x1234), 2), 0x12, 0x34)
	wantBytes(t, "twice", word.Put(word.Put(nil, uint8(1), 1), uint16(2), 2), 1, 0, 2)
}

// 1.1: numbers of any unsigned type, also of types that are made of them.
func TestPutNamedTypes(t *testing.T) {
	wantBytes(t, "tiny", word.Put(nil, tiny(0x81), 1), 0x81)
	wantBytes(t, "short", word.Put(nil, short(0x8182), 2), 0x81, 0x82)
	wantBytes(t, "mid", word.Put(nil, mid(0x81828384), 4), 0x81, 0x82, 0x83, 0x84)
	wantBytes(t, "long", word.Put(nil, long(0x8182838485868788), 8), 0x81, 0x82, 0x83, 0x84, 0x85, 0x86, 0x87, 0x88)
}

// 1.1: zero bytes ahead of a number for a size beyond its width.
func TestPutWiderThanNumber(t *testing.T) {
	wantBytes(t, "uint8 in 2", word.Put(nil, uint8(0xFF), 2), 0, 0xFF)
	wantBytes(t, "uint8 in 9", word.Put(nil, uint8(0xFF), 9), 0, 0, 0, 0, 0, 0, 0, 0, 0xFF)
	wantBytes(t, "uint16 in 3", word.Put(nil, uint16(0xFFFE), 3), 0, 0xFF, 0xFE)
	wantBytes(t, "uint32 in 5", word.Put(nil, uint32(math.MaxUint32), 5), 0, 255, 255, 255, 255)
	wantBytes(t, "uint64 in 9", word.Put(nil, uint64(0x8182838485868788), 9), 0, 0x81, 0x82, 0x83, 0x84, 0x85, 0x86, 0x87, 0x88)
	b := word.Put([]byte{3}, uint64(math.MaxUint64), 1000)
	want := append(append([]byte{3}, make([]byte, 992)...), bytes.Repeat([]byte{255}, 8)...)
	wantBytes(t, "uint64 in 1000", b, want...)
}

// 1.1: nothing is appended for a size less than 1.
func TestPutSizeBelowOne(t *testing.T) {
	for _, size := range []int{0, -1, -8, math.MinInt} {
		wantBytes(t, "to nothing", word.Put(nil, uint64(5), size))
		wantBytes(t, "to bytes", word.Put([]byte{1, 2}, uint8(5), size), 1, 2)
	}
}

// 1.1 and R3: neither b nor the memory behind it is changed or shared.
func TestPutNewMemory(t *testing.T) {
	for _, size := range []int{-1, 0, 1, 8, 20} {
		b, behind := spare(1, 2)
		out := word.Put(b, uint64(math.MaxUint64), size)
		untouched(t, "Put", behind)
		for i := range out {
			out[i] = 99
		}
		wantBytes(t, "argument", b, 1, 2)
	}
}

// 1.1: the number that bytes are.
func TestGet(t *testing.T) {
	cases := []struct {
		b    []byte
		want uint64
	}{
		{nil, 0},
		{[]byte{}, 0},
		{[]byte{0}, 0},
		{[]byte{200}, 200},
		{[]byte{0, 2, 1}, 513},
		{[]byte{1, 2, 3, 4, 5, 6, 7, 8}, 0x0102030405060708},
		{[]byte{255, 255, 255, 255, 255, 255, 255, 255}, math.MaxUint64},
		{[]byte{9, 1, 2, 3, 4, 5, 6, 7, 8}, 0x0102030405060708},
		{[]byte{1, 0, 0, 0, 0, 0, 0, 0, 0}, 0},
		{append(bytes.Repeat([]byte{255}, 100), 0, 0, 0, 0, 0, 0, 0, 6), 6},
	}
	for _, c := range cases {
		kept := bytes.Clone(c.b)
		if got := word.Get(c.b); got != c.want {
			t.Errorf("Get(%v) = %d, want %d", c.b, got, c.want)
		}
		wantBytes(t, "argument of Get", c.b, kept...)
	}
}

// 1.2: the length, the string, and zero bytes.
func TestText(t *testing.T) {
	cases := []struct {
		s    string
		size int
		want string
	}{
		{"ab", 4, "\x02ab\x00"},
		{"ab", 3, "\x02ab"},
		{"", 1, "\x00"},
		{"", 3, "\x00\x00\x00"},
		{"\x00", 3, "\x01\x00\x00"},
		{"\xff\x80", 4, "\x02\xff\x80\x00"},
		{"é", 5, "\x02\xc3\xa9\x00\x00"},
		{strings.Repeat("x", 15), 16, "\x0f" + strings.Repeat("x", 15)},
		{strings.Repeat("y", 255), 256, "\xff" + strings.Repeat("y", 255)},
		{"z", 256, "\x01z" + strings.Repeat("\x00", 254)},
	}
	for _, c := range cases {
		b, code := word.Text(nil, c.s, c.size)
		if code != api.OK || string(b) != c.want {
			t.Errorf("Text(%q, %d) = %q, %d, want %q", c.s, c.size, b, code, c.want)
		}
		b, code = word.Text([]byte{7, 9}, c.s, c.size)
		if code != api.OK || string(b) != "\x07\x09"+c.want {
			t.Errorf("Text(%q, %d) behind bytes = %q, %d", c.s, c.size, b, code)
		}
	}
}

// 1.2: the codes at and beyond the limits; no bytes beside them (R2), ErrRange ahead of ErrSize (R6).
func TestTextRejects(t *testing.T) {
	cases := []struct {
		s    string
		size int
		want api.Code
	}{
		{"", 0, api.ErrRange},
		{"", -1, api.ErrRange},
		{"", math.MinInt, api.ErrRange},
		{"", 257, api.ErrRange},
		{"", math.MaxInt, api.ErrRange},
		{"abc", 0, api.ErrRange},
		{strings.Repeat("x", 256), 257, api.ErrRange},
		{strings.Repeat("x", 257), 257, api.ErrRange},
		{"a", 1, api.ErrSize},
		{"abcd", 4, api.ErrSize},
		{"abcde", 4, api.ErrSize},
		{strings.Repeat("x", 256), 256, api.ErrSize},
		{strings.Repeat("x", 300), 256, api.ErrSize},
	}
	for _, c := range cases {
		b, code := word.Text([]byte{1, 2}, c.s, c.size)
		if code != c.want || len(b) != 0 {
			t.Errorf("Text of %d bytes in %d = %v, %d, want none, %d", len(c.s), c.size, b, code, c.want)
		}
	}
}

// 1.2 and R3: neither b nor the memory behind it is changed or shared.
func TestTextNewMemory(t *testing.T) {
	for _, size := range []int{0, 1, 3, 4, 256} {
		b, behind := spare(1, 2)
		out, _ := word.Text(b, "", size)
		untouched(t, "Text", behind)
		for i := range out {
			out[i] = 99
		}
		wantBytes(t, "argument", b, 1, 2)
	}
}

// 1.3: bytes, numbers and strings one after the other.
func TestReaderInOrder(t *testing.T) {
	r := word.Read([]byte{1, 2, 3, 4, 5, 2, 'a', 'b', 0, 6, 0, 0})
	wantState(t, "beginning", r, 12, true, false)
	wantBytes(t, "Take(2)", r.Take(2), 1, 2)
	wantState(t, "behind Take", r, 10, true, false)
	if n := r.Num(3); n != 0x030405 {
		t.Errorf("Num(3) = %x", n)
	}
	wantState(t, "behind Num", r, 7, true, false)
	if s := r.Text(4); s != "ab" {
		t.Errorf("Text(4) = %q", s)
	}
	wantState(t, "behind Text", r, 3, true, false)
	wantBytes(t, "Take(1)", r.Take(1), 6)
	wantState(t, "ahead of zero bytes", r, 2, true, true)
	wantBytes(t, "all the rest", r.Take(2), 0, 0)
	wantState(t, "end", r, 0, true, true)
}

// 1.3: a count of 0 is no error, not even at the end; nor is a reader of nothing.
func TestReaderOfNothing(t *testing.T) {
	for _, b := range [][]byte{nil, {}} {
		r := word.Read(b)
		wantState(t, "beginning", r, 0, true, true)
		wantBytes(t, "Take(0)", r.Take(0))
		if n := r.Num(0); n != 0 {
			t.Errorf("Num(0) = %d", n)
		}
		wantState(t, "behind counts of 0", r, 0, true, true)
	}
}

// 1.3: Num of more than eight bytes is modulo 2^64.
func TestNumModulo(t *testing.T) {
	r := word.Read([]byte{9, 1, 2, 3, 4, 5, 6, 7, 8, 5})
	if n := r.Num(9); n != 0x0102030405060708 {
		t.Errorf("Num(9) = %x", n)
	}
	wantState(t, "behind Num(9)", r, 1, true, false)
}

// failures are the calls that are errors on a reader of three bytes, without consuming any.
func failures() map[string]func(r *word.Reader) bool {
	return map[string]func(r *word.Reader) bool{
		"Take(-1)":     func(r *word.Reader) bool { return len(r.Take(-1)) == 0 },
		"Take(MinInt)": func(r *word.Reader) bool { return len(r.Take(math.MinInt)) == 0 },
		"Take(4)":      func(r *word.Reader) bool { return len(r.Take(4)) == 0 },
		"Take(MaxInt)": func(r *word.Reader) bool { return len(r.Take(math.MaxInt)) == 0 },
		"Num(-1)":      func(r *word.Reader) bool { return r.Num(-1) == 0 },
		"Num(4)":       func(r *word.Reader) bool { return r.Num(4) == 0 },
		"Text(-1)":     func(r *word.Reader) bool { return r.Text(-1) == "" },
		"Text(0)":      func(r *word.Reader) bool { return r.Text(0) == "" },
		"Text(4)":      func(r *word.Reader) bool { return r.Text(4) == "" },
	}
}

// 1.3: an error returns nothing and consumes nothing.
func TestReaderErrors(t *testing.T) {
	for name, fail := range failures() {
		r := word.Read([]byte{1, 'a', 0})
		if !fail(r) {
			t.Errorf("%s returned something", name)
		}
		wantState(t, name, r, 3, false, false)
	}
}

// 1.3: after an error nothing is returned or consumed, whatever is asked for.
func TestReaderStaysInError(t *testing.T) {
	for name, fail := range failures() {
		r := word.Read([]byte{0, 0, 0})
		fail(r)
		wantBytes(t, name+", Take(0)", r.Take(0))
		wantBytes(t, name+", Take(1)", r.Take(1))
		wantBytes(t, name+", Take(3)", r.Take(3))
		if n := r.Num(1); n != 0 {
			t.Errorf("%s, Num(1) = %d", name, n)
		}
		if s := r.Text(3); s != "" {
			t.Errorf("%s, Text(3) = %q", name, s)
		}
		for again := range failures() {
			failures()[again](r)
		}
		wantState(t, name, r, 3, false, false)
	}
}

// 1.3: after an error neither a number nor a string that is there is returned.
func TestReaderErrorHidesRest(t *testing.T) {
	r := word.Read([]byte{2, 'a', 'b', 7})
	r.Take(5)
	if s := r.Text(3); s != "" {
		t.Errorf("Text = %q", s)
	}
	if n := r.Num(1); n != 0 {
		t.Errorf("Num = %d", n)
	}
	wantBytes(t, "Take", r.Take(2))
	wantState(t, "after an error", r, 4, false, false)
}

// 1.3: an invalid field is an error, and its bytes are consumed.
func TestReaderInvalidFields(t *testing.T) {
	fields := [][]byte{
		{1},
		{255},
		{2, 'a'},
		{3, 'a', 'b'},
		{255, 'a', 'b', 'c'},
		{1, 'a', 1},
		{0, 1},
		{0, 0, 0, 1},
		{0, 1, 0, 0},
		{1, 'a', 0, 'b', 0},
		append([]byte{254}, bytes.Repeat([]byte{'x'}, 255)...),
	}
	for _, f := range fields {
		r := word.Read(append(bytes.Clone(f), 0, 0))
		if s := r.Text(len(f)); s != "" {
			t.Errorf("Text of %v = %q", f, s)
		}
		wantState(t, "invalid field", r, 2, false, false)
		wantBytes(t, "Take behind an invalid field", r.Take(1))
		wantState(t, "behind an invalid field", r, 2, false, false)
	}
}

// 1.3: valid fields at their limits.
func TestReaderFields(t *testing.T) {
	long := strings.Repeat("x", 255)
	fields := []struct{ field, want string }{
		{"\x00", ""},
		{"\x00\x00\x00", ""},
		{"\x01\x00", "\x00"},
		{"\x01\x00\x00", "\x00"},
		{"\x02a\x00\x00", "a\x00"},
		{"\x03abc", "abc"},
		{"\xff" + long, long},
		// The definition of a field does not limit its size; only encoding one does.
		{"\xff" + long + "\x00", long},
		{"\x01a" + strings.Repeat("\x00", 298), "a"},
	}
	for _, f := range fields {
		r := word.Read([]byte(f.field + "\x05"))
		if s := r.Text(len(f.field)); s != f.want {
			t.Errorf("Text of %q = %q, want %q", f.field, s, f.want)
		}
		wantState(t, "valid field", r, 1, true, false)
	}
}

// 1.3: Noughts looks at all bytes that are left, and at them alone.
func TestNoughts(t *testing.T) {
	for _, b := range [][]byte{{1, 0, 0}, {0, 1, 0}, {0, 0, 1}, {0, 0x80, 0}} {
		wantState(t, "one byte is not 0", word.Read(b), 3, true, false)
	}
	b, _ := spare(0, 0)
	wantState(t, "other memory behind", word.Read(b), 2, true, true)
	r := word.Read([]byte{5, 0, 0})
	r.Take(1)
	wantState(t, "consumed", r, 2, true, true)
	r.Take(3)
	wantState(t, "failed", r, 2, false, false)
}

// 1.3 and R3: the reader keeps bytes of its own, and what it returns is the caller's.
func TestReaderOwnMemory(t *testing.T) {
	b := []byte{1, 2, 3, 4}
	r := word.Read(b)
	b[0], b[1], b[2], b[3] = 9, 9, 9, 9
	first := r.Take(2)
	wantBytes(t, "first", first, 1, 2)
	first = append(first, 8, 8)
	first[0] = 7
	wantBytes(t, "second", r.Take(2), 3, 4)
	wantBytes(t, "argument", b, 9, 9, 9, 9)
}

// 1.3 and R3: memory behind the length of b is not read.
func TestReaderStopsAtLength(t *testing.T) {
	b, behind := spare(1)
	r := word.Read(b)
	wantBytes(t, "beyond the length", r.Take(2))
	wantState(t, "beyond the length", r, 1, false, false)
	untouched(t, "Read", behind)
}

// 1.3: readers do not hang on each other.
func TestReadersApart(t *testing.T) {
	b := []byte{1, 2}
	one, two := word.Read(b), word.Read(b)
	one.Take(1)
	one.Take(9)
	wantState(t, "the other one", two, 2, true, false)
	wantBytes(t, "the other one", two.Take(2), 1, 2)
}

// samples are numbers around the limits of all widths.
func samples() []uint64 {
	l := []uint64{0, 1, 513, 0x0102030405060708}
	for bit := range 64 {
		p := uint64(1) << bit
		l = append(l, p-1, p, p+1, ^p)
	}
	return append(l, math.MaxUint64)
}

// 1.4: an encoded number is decoded as the original value, if its size suffices, otherwise as its lowest bytes.
func TestNumberRoundTrip(t *testing.T) {
	for _, n := range samples() {
		for size := 0; size <= 12; size++ {
			want := n
			if size < 8 {
				want = n & (1<<(8*size) - 1)
			}
			b := word.Put(nil, n, size)
			if got := word.Get(b); got != want || len(b) != size {
				t.Errorf("Get(Put(%x, %d)) = %x of %d bytes", n, size, got, len(b))
			}
			r := word.Read(word.Put(b, uint8(5), 1))
			if got := r.Num(size); got != want || r.Num(1) != 5 || !r.Right() || r.Left() != 0 {
				t.Errorf("Num(%d) of Put of %x = %x", size, n, got)
			}
		}
	}
}

// 1.4: the same for the narrower types.
func TestNarrowRoundTrip(t *testing.T) {
	for _, n := range samples() {
		if got := word.Get(word.Put(nil, uint8(n), 1)); got != uint64(uint8(n)) {
			t.Errorf("uint8 of %x: %x", n, got)
		}
		if got := word.Get(word.Put(nil, short(n), 2)); got != uint64(uint16(n)) {
			t.Errorf("uint16 of %x: %x", n, got)
		}
		if got := word.Get(word.Put(nil, uint32(n), 4)); got != uint64(uint32(n)) {
			t.Errorf("uint32 of %x: %x", n, got)
		}
	}
}

// 1.4: an encoded string is decoded as the original value, for every size and every length.
func TestStringRoundTrip(t *testing.T) {
	all := make([]byte, 256)
	for i := range all {
		all[i] = byte(i * 7)
	}
	for size := 1; size <= 256; size++ {
		for length := 0; length < size; length++ {
			s := string(all[:length])
			b, code := word.Text(nil, s, size)
			if code != api.OK || len(b) != size {
				t.Fatalf("Text of %d bytes in %d: %d bytes, %d", length, size, len(b), code)
			}
			r := word.Read(b)
			if got := r.Text(size); got != s || !r.Right() || r.Left() != 0 {
				t.Fatalf("decoded of %d bytes in %d: %q", length, size, got)
			}
		}
	}
}

// 1.4 and P6: bytes are decoded exactly if they are the one field of some string.
func TestOneFieldForEachString(t *testing.T) {
	letters := []byte{0, 1, 2, 3, 4, 255}
	var try func(b []byte, size int)
	try = func(b []byte, size int) {
		if len(b) < size {
			for _, c := range letters {
				try(append(bytes.Clone(b), c), size)
			}
			return
		}
		r := word.Read(b)
		s := r.Text(size)
		again, code := word.Text(nil, s, size)
		if same := code == api.OK && bytes.Equal(again, b); same != r.Right() {
			t.Errorf("%v is decoded as %q, Right %v, which is encoded as %v", b, s, r.Right(), again)
		}
	}
	for size := 1; size <= 5; size++ {
		try(nil, size)
	}
}
