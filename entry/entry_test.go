package entry_test

import (
	"bytes"
	"hash/crc32"
	"math"
	"slices"
	"strings"
	"testing"

	"counterpane/api"
	"counterpane/entry"
	"counterpane/word"
)

// numbers returns numbers of eight bytes: the limits, and one whose bytes all differ.
func numbers() []uint64 {
	return []uint64{0, 1, 255, 256, math.MaxUint32, 1 << 32, math.MaxInt64, 1 << 63, 0x0102030405060708, math.MaxUint64 - 1, math.MaxUint64}
}

// axes returns attributes: the limits, and one whose bytes all differ.
func axes() []uint32 {
	return []uint32{0, 1, 255, 256, 1 << 31, 0x01020304, math.MaxUint32}
}

// values returns values of all lengths, some with zero bytes in them, and some that are no text.
func values() []string {
	l := []string{"\x00", "\x00\x00", "a\x00", "\x00a", "a\x00b", "\xff\xfe", "äß", strings.Repeat("\x00", 15), strings.Repeat("\xff", 15), strings.Repeat("\x00", 14) + "z"}
	for n := range 16 {
		l = append(l, "abcdefghijklmno"[:n])
	}
	return l
}

// page returns a page whose first n bytes are not 0.
func page(n int) api.Page {
	var p api.Page
	for i := range n {
		p[i] = byte(1 + (7*i+n)%255)
	}
	return p
}

// lone returns a page of which the byte at a position alone is not 0.
func lone(at int) api.Page {
	var p api.Page
	p[at] = 0x80
	return p
}

// images returns so many pages, from page first on, in which all 224 bytes are stored.
func images(first, n int) []api.Image {
	var l []api.Image
	for i := range n {
		l = append(l, api.Image{Page: first + i, P: page(224)})
	}
	return l
}

// numbered returns blank pages with these numbers.
func numbered(l ...int) []api.Image {
	var out []api.Image
	for _, n := range l {
		out = append(out, api.Image{Page: n})
	}
	return out
}

// active returns n numbers whose bytes differ.
func active(n int) []uint64 {
	var l []uint64
	for i := range n {
		l = append(l, uint64(i+1)*0x0101010101010101)
	}
	return l
}

// sample returns an entry in which no field is zero, and no two fields are equal.
func sample() api.Entry {
	return api.Entry{
		Lsn: 0x0102030405060708, Kind: api.LogNest, Txn: 0x1112131415161718, Prev: 0x2122232425262728, Next: 0x3132333435363738,
		Rec:    api.Rec{Id: 0x4142434445464748, Key: 0x5152535455565758, X: 0x61626364, Y: 0x71727374, Val: "value", Ghost: true},
		Pages:  []api.Image{{Page: 3, P: api.Page{1, 0, 2}}, {Page: 7}, {Page: 250, P: page(224)}},
		Active: []uint64{9, 8, 0x8182838485868788},
	}
}

// copyOf returns an entry that shares no memory with e.
func copyOf(e api.Entry) api.Entry {
	e.Pages = slices.Clone(e.Pages)
	e.Active = slices.Clone(e.Active)
	return e
}

// entries returns entries of all kinds: as small and as large as can be, and with each field at its limits.
func entries() []api.Entry {
	l := []api.Entry{
		sample(),
		{Kind: api.LogBegin},
		{Kind: api.LogCheck, Active: active(64)},
		{Kind: api.LogCheck, Active: []uint64{0}},
		{Kind: api.LogCheck, Active: make([]uint64, 64)},
		{Kind: api.LogCheck, Active: []uint64{5, 5, 4, math.MaxUint64, 0}},
		{Kind: api.LogPut, Pages: images(0, 24)},
		{Kind: api.LogPut, Pages: images(232, 24)},
		{Kind: api.LogPut, Pages: numbered(0)},
		{Kind: api.LogPut, Pages: numbered(255)},
		{Kind: api.LogPut, Pages: numbered(0, 255)},
		{Kind: api.LogNest, Rec: api.Rec{Val: strings.Repeat("\xff", 15)}, Pages: images(100, 24), Active: active(64)},
	}
	for kind := api.LogBegin; kind <= api.LogCheck; kind++ {
		l = append(l, api.Entry{Kind: kind, Lsn: uint64(kind)})
	}
	for _, n := range numbers() {
		l = append(l, api.Entry{Kind: 1, Lsn: n}, api.Entry{Kind: 2, Txn: n}, api.Entry{Kind: 3, Prev: n}, api.Entry{Kind: 4, Next: n}, api.Entry{Kind: 10, Active: []uint64{n, n}})
	}
	for _, r := range records() {
		l = append(l, api.Entry{Kind: api.LogUndo, Rec: r})
	}
	for n := range 225 {
		l = append(l, api.Entry{Kind: api.LogDel, Pages: []api.Image{{Page: n, P: page(n)}, {Page: n + 1}}})
	}
	for at := range 224 {
		l = append(l, api.Entry{Kind: api.LogClean, Pages: []api.Image{{Page: 1}, {Page: 2, P: lone(at)}}})
	}
	return l
}

// records returns records with each field at its limits.
func records() []api.Rec {
	l := []api.Rec{{}, {Ghost: true}, sample().Rec}
	for _, n := range numbers() {
		l = append(l, api.Rec{Id: n}, api.Rec{Key: n, Ghost: true}, api.Rec{Id: n, Key: ^n})
	}
	for _, n := range axes() {
		l = append(l, api.Rec{X: n}, api.Rec{Y: n, Ghost: true}, api.Rec{X: n, Y: ^n})
	}
	for _, s := range values() {
		l = append(l, api.Rec{Val: s}, api.Rec{Id: 1, Key: 2, X: 3, Y: 4, Val: s, Ghost: true})
	}
	return l
}

// bigEndian returns the size lowest bytes of n, the highest one first.
func bigEndian(n uint64, size int) []byte {
	b := make([]byte, size)
	for i := range b {
		b[size-1-i] = byte(n >> (8 * i))
	}
	return b
}

// recBytes returns the bytes of a record, put together one by one.
func recBytes(r api.Rec) []byte {
	b := make([]byte, 41)
	copy(b[0:], bigEndian(r.Id, 8))
	copy(b[8:], bigEndian(r.Key, 8))
	copy(b[16:], bigEndian(uint64(r.X), 4))
	copy(b[20:], bigEndian(uint64(r.Y), 4))
	if r.Ghost {
		b[24] = 1
	}
	b[25] = byte(len(r.Val))
	copy(b[26:], r.Val)
	return b
}

// sealed returns b followed by its checksum.
func sealed(b []byte) []byte {
	sum := crc32.Checksum(b, crc32.MakeTable(crc32.Castagnoli))
	return append(slices.Clone(b), byte(sum), byte(sum>>8), byte(sum>>16), byte(sum>>24))
}

// bodyOf returns the bytes of an entry without the checksum, put together one by one.
func bodyOf(e api.Entry) []byte {
	b := []byte{byte(e.Kind)}
	for _, n := range []uint64{e.Lsn, e.Txn, e.Prev, e.Next} {
		b = append(b, bigEndian(n, 8)...)
	}
	b = append(b, recBytes(e.Rec)...)
	b = append(b, byte(len(e.Pages)))
	for _, image := range e.Pages {
		n := 224
		for n > 0 && image.P[n-1] == 0 {
			n--
		}
		b = append(b, byte(image.Page), byte(n))
		b = append(b, image.P[:n]...)
	}
	b = append(b, byte(len(e.Active)))
	for _, n := range e.Active {
		b = append(b, bigEndian(n, 8)...)
	}
	return b
}

// put returns the bytes of a valid entry.
func put(t *testing.T, e api.Entry) []byte {
	t.Helper()
	b, code := entry.Put(e)
	if code != api.OK {
		t.Fatalf("Put(%v): code %d", e, code)
	}
	return b
}

// equal compares two entries field by field, without the package's own help.
func equal(a, b api.Entry) bool {
	return a.Lsn == b.Lsn && a.Kind == b.Kind && a.Txn == b.Txn && a.Prev == b.Prev && a.Next == b.Next && a.Rec == b.Rec && slices.Equal(a.Pages, b.Pages) && slices.Equal(a.Active, b.Active)
}

// wantCheck wants a code of Check; if it is not OK, Put must return it beside no bytes.
func wantCheck(t *testing.T, e api.Entry, want api.Code) {
	t.Helper()
	if got := entry.Check(e); got != want {
		t.Fatalf("Check(%v) = %d, want %d", e, got, want)
	}
	b, got := entry.Put(e)
	if got != want || (len(b) == 0) != (want != api.OK) {
		t.Fatalf("Put(%v) = %v, %d, want the code %d", e, b, got, want)
	}
}

func wantSame(t *testing.T, a, b api.Entry, want bool) {
	t.Helper()
	if entry.Same(a, b) != want || entry.Same(b, a) != want {
		t.Fatalf("Same(%v, %v) = %v, %v the other way round, want %v", a, b, entry.Same(a, b), entry.Same(b, a), want)
	}
}

func wantGet(t *testing.T, b []byte, want api.Entry) {
	t.Helper()
	if e, code := entry.Get(b); !equal(e, want) || code != api.OK {
		t.Fatalf("Get(%v) = %v, %d, want %v", b, e, code, want)
	}
}

// wantNoGet wants the zero entry beside a code.
func wantNoGet(t *testing.T, b []byte, want api.Code) {
	t.Helper()
	if e, code := entry.Get(b); !equal(e, api.Entry{}) || code != want {
		t.Fatalf("Get(%v) = %v, %d, want the code %d alone", b, e, code, want)
	}
}

// wantReadRec wants the record that is next, and how many bytes are left then.
func wantReadRec(t *testing.T, r *word.Reader, want api.Rec, left int) {
	t.Helper()
	if rec, ok := entry.ReadRec(r); rec != want || !ok {
		t.Fatalf("ReadRec = %v, %v, want %v", rec, ok, want)
	}
	if r.Left() != left || !r.Right() {
		t.Fatalf("behind %v: Left, Right = %d, %v, want %d", want, r.Left(), r.Right(), left)
	}
}

// wantNoRec wants the zero record beside false, and a reader that is as it was.
func wantNoRec(t *testing.T, r *word.Reader) {
	t.Helper()
	left, right := r.Left(), r.Right()
	if rec, ok := entry.ReadRec(r); rec != (api.Rec{}) || ok {
		t.Fatalf("ReadRec = %v, %v, want none", rec, ok)
	}
	if r.Left() != left || r.Right() != right {
		t.Fatalf("behind no record: Left, Right = %d, %v, want %d, %v", r.Left(), r.Right(), left, right)
	}
}

// 8.1: the limits have the values of the chapter.
func TestLimits(t *testing.T) {
	if entry.MaxPages != 24 || entry.MaxActive != 64 || entry.RecSize != 41 {
		t.Fatalf("MaxPages, MaxActive, RecSize = %d, %d, %d", entry.MaxPages, entry.MaxActive, entry.RecSize)
	}
}

// 8.1: ErrArg unless the kind is in the range from LogBegin to LogCheck.
func TestCheckKind(t *testing.T) {
	for kind := api.LogBegin; kind <= api.LogCheck; kind++ {
		wantCheck(t, api.Entry{Kind: kind}, api.OK)
		e := sample()
		e.Kind = kind
		wantCheck(t, e, api.OK)
	}
	// Some of these have the lowest byte, or 32 bits, of a kind.
	for _, kind := range []int{0, -1, -10, 11, 12, 100, 255, 256, 257, 266, -255, 1<<16 + 1, 1<<32 + 1, -1<<32 + 1, math.MinInt, math.MinInt + 1, math.MaxInt - 1, math.MaxInt} {
		wantCheck(t, api.Entry{Kind: kind}, api.ErrArg)
		e := sample()
		e.Kind = kind
		wantCheck(t, e, api.ErrArg)
	}
}

// 8.1: ErrSize if the value has more than 15 bytes; bytes count, not characters.
func TestCheckValue(t *testing.T) {
	for _, s := range values() {
		wantCheck(t, api.Entry{Kind: 1, Rec: api.Rec{Val: s}}, api.OK)
	}
	for _, n := range []int{16, 17, 31, 32, 255, 256, 257, 271, 512, 1 << 16} {
		for _, s := range []string{"a", "\x00", "\xff"} {
			wantCheck(t, api.Entry{Kind: 1, Rec: api.Rec{Val: strings.Repeat(s, n)}}, api.ErrSize)
		}
	}
	wantCheck(t, api.Entry{Kind: 1, Rec: api.Rec{Val: strings.Repeat("ä", 7) + "a"}}, api.OK)
	wantCheck(t, api.Entry{Kind: 1, Rec: api.Rec{Val: strings.Repeat("ä", 8)}}, api.ErrSize)
}

// 8.1: ErrLimit if there are more than 24 Pages or 64 Active.
func TestCheckNumbers(t *testing.T) {
	for _, n := range []int{0, 1, 23, 24} {
		wantCheck(t, api.Entry{Kind: 1, Pages: images(0, n)}, api.OK)
	}
	for _, n := range []int{25, 26, 64, 256, 257, 280} {
		wantCheck(t, api.Entry{Kind: 1, Pages: images(0, n)}, api.ErrLimit)
		wantCheck(t, api.Entry{Kind: 1, Pages: images(0, n), Active: active(64)}, api.ErrLimit)
	}
	for _, n := range []int{0, 1, 63, 64} {
		wantCheck(t, api.Entry{Kind: 1, Active: active(n)}, api.OK)
	}
	for _, n := range []int{65, 66, 255, 256, 257, 320} {
		wantCheck(t, api.Entry{Kind: 1, Active: active(n)}, api.ErrLimit)
		wantCheck(t, api.Entry{Kind: 1, Pages: images(0, 24), Active: active(n)}, api.ErrLimit)
	}
	wantCheck(t, api.Entry{Kind: 1, Pages: images(0, 24), Active: active(64)}, api.OK)
}

// 8.1: ErrRange unless the number of each page is in [0, 255] and greater than that of the previous one.
func TestCheckPageNumbers(t *testing.T) {
	for _, l := range [][]int{{0}, {1}, {255}, {0, 1}, {254, 255}, {0, 255}, {0, 1, 2, 3}, {3, 9, 27, 81, 243}} {
		wantCheck(t, api.Entry{Kind: 2, Pages: numbered(l...)}, api.OK)
	}
	wrong := [][]int{
		{-1}, {256}, {-1, 0}, {255, 256}, {0, 256}, {-2, -1}, {0, 0}, {1, 1}, {255, 255}, {256, 256}, {1, 0}, {255, 0}, {255, 254},
		{0, 1, 1}, {0, 2, 1}, {0, 0, 1}, {5, 6, 5}, {1, 2, 256}, {-1, 2, 3}, {0, -1, 1}, {0, 256, 1}, {1, 257, 3},
		{math.MinInt}, {math.MaxInt}, {math.MinInt, 0}, {0, math.MaxInt}, {0, math.MinInt}, {math.MinInt, math.MaxInt}, {math.MaxInt, math.MinInt},
		{1 << 32}, {-1 << 32}, {1<<32 + 7}, {257}, {-255}, {3, 1<<32 + 4},
	}
	for _, l := range wrong {
		wantCheck(t, api.Entry{Kind: 2, Pages: numbered(l...)}, api.ErrRange)
	}
	for at := range 24 {
		l := images(10, 24)
		l[at].Page = 300
		wantCheck(t, api.Entry{Kind: 2, Pages: l}, api.ErrRange)
		if at > 0 {
			l[at].Page = l[at-1].Page
			wantCheck(t, api.Entry{Kind: 2, Pages: l}, api.ErrRange)
		}
	}
}

// 8.1 and R6: of several errors the one that is named first is returned.
func TestCheckOrder(t *testing.T) {
	const kind, size, pages, actives, numbers = 1, 2, 4, 8, 16
	for wrong := range 32 {
		e := api.Entry{Kind: 5, Rec: api.Rec{Val: "v"}, Pages: images(0, 24), Active: active(64)}
		want := api.OK
		if wrong&numbers != 0 {
			e.Pages[0].Page, want = -1, api.ErrRange
		}
		if wrong&actives != 0 {
			e.Active, want = active(65), api.ErrLimit
		}
		if wrong&pages != 0 {
			e.Pages, want = append(e.Pages, api.Image{Page: 30}), api.ErrLimit
		}
		if wrong&size != 0 {
			e.Rec.Val, want = strings.Repeat("v", 16), api.ErrSize
		}
		if wrong&kind != 0 {
			e.Kind, want = 11, api.ErrArg
		}
		wantCheck(t, e, want)
	}
}

// changed returns entries that differ from sample in one thing each.
func changed() []api.Entry {
	var l []api.Entry
	add := func(change func(e *api.Entry)) {
		e := copyOf(sample())
		change(&e)
		l = append(l, e)
	}
	for bit := range 64 {
		flip := uint64(1) << bit
		add(func(e *api.Entry) { e.Lsn ^= flip })
		add(func(e *api.Entry) { e.Kind ^= int(flip) })
		add(func(e *api.Entry) { e.Txn ^= flip })
		add(func(e *api.Entry) { e.Prev ^= flip })
		add(func(e *api.Entry) { e.Next ^= flip })
		add(func(e *api.Entry) { e.Rec.Id ^= flip })
		add(func(e *api.Entry) { e.Rec.Key ^= flip })
		add(func(e *api.Entry) { e.Pages[1].Page ^= int(flip) })
		for i := range sample().Active {
			add(func(e *api.Entry) { e.Active[i] ^= flip })
		}
	}
	for bit := range 32 {
		add(func(e *api.Entry) { e.Rec.X ^= 1 << bit })
		add(func(e *api.Entry) { e.Rec.Y ^= 1 << bit })
	}
	add(func(e *api.Entry) { e.Rec.Ghost = false })
	for _, s := range []string{"", "valu", "valuE", "value\x00", "value ", "Value", strings.Repeat("v", 16)} {
		add(func(e *api.Entry) { e.Rec.Val = s })
	}
	for i := range sample().Pages {
		for at := range 224 {
			add(func(e *api.Entry) { e.Pages[i].P[at] ^= 1 })
		}
		add(func(e *api.Entry) { e.Pages = slices.Delete(e.Pages, i, i+1) })
		add(func(e *api.Entry) { e.Active = slices.Delete(e.Active, i, i+1) })
	}
	add(func(e *api.Entry) { e.Pages = append(e.Pages, api.Image{}) })
	add(func(e *api.Entry) { e.Active = append(e.Active, 0) })
	add(func(e *api.Entry) { e.Pages = nil })
	add(func(e *api.Entry) { e.Active = nil })
	add(func(e *api.Entry) { slices.Reverse(e.Pages) })
	add(func(e *api.Entry) { slices.Reverse(e.Active) })
	return l
}

// 8.1: Same reports whether all fields are equal.
func TestSame(t *testing.T) {
	wantSame(t, sample(), copyOf(sample()), true)
	for _, e := range changed() {
		wantSame(t, e, e, true)
		wantSame(t, e, copyOf(e), true)
		wantSame(t, e, sample(), false)
	}
	l := entries()
	for i, a := range l {
		for _, b := range l[max(0, i-40):] {
			wantSame(t, a, b, equal(a, b))
		}
	}
}

// 8.1 and R3: nil and empty lists are the same.
func TestSameEmpty(t *testing.T) {
	wantSame(t, api.Entry{}, api.Entry{}, true)
	wantSame(t, api.Entry{}, api.Entry{Pages: []api.Image{}, Active: []uint64{}}, true)
	wantSame(t, api.Entry{}, api.Entry{Pages: make([]api.Image, 0, 3), Active: make([]uint64, 0, 3)}, true)
	wantSame(t, api.Entry{}, api.Entry{Active: make([]uint64, 1)}, false)
	wantSame(t, api.Entry{}, api.Entry{Pages: make([]api.Image, 1)}, false)
	wantSame(t, api.Entry{Pages: make([]api.Image, 1)}, api.Entry{Active: make([]uint64, 1)}, false)
}

// 8.1: Same compares entries that are not valid, too.
func TestSameInvalid(t *testing.T) {
	a := api.Entry{Kind: -3, Pages: numbered(-1, -1, 256, math.MinInt), Active: active(70), Rec: api.Rec{Val: strings.Repeat("a", 300)}}
	b := copyOf(a)
	wantSame(t, a, b, true)
	b.Active[69]++
	wantSame(t, a, b, false)
	b = copyOf(a)
	b.Pages[3].Page++
	wantSame(t, a, b, false)
	b = copyOf(a)
	b.Rec.Val = strings.Repeat("a", 44)
	wantSame(t, a, b, false)
}

// 8.2: a record as bytes, written out.
func TestRecBytes(t *testing.T) {
	r := api.Rec{Id: 0x0102030405060708, Key: 0x1112131415161718, X: 0x21222324, Y: 0x31323334, Val: "a\x00b", Ghost: true}
	want := []byte{1, 2, 3, 4, 5, 6, 7, 8, 17, 18, 19, 20, 21, 22, 23, 24, 33, 34, 35, 36, 49, 50, 51, 52, 1, 3, 'a', 0, 'b', 0, 0, 0, 0, 0, 0, 0, 0, 0, 0, 0, 0}
	if got := entry.Rec(r); !bytes.Equal(got, want) {
		t.Fatalf("Rec(%v) = %v, want %v", r, got, want)
	}
	if got := entry.Rec(api.Rec{}); !bytes.Equal(got, make([]byte, 41)) {
		t.Fatalf("Rec of the zero record = %v", got)
	}
}

// 8.2 and 8.5: each record has RecSize bytes, and ReadRec returns it from them.
func TestRec(t *testing.T) {
	for _, r := range records() {
		b := entry.Rec(r)
		if len(b) != entry.RecSize || !bytes.Equal(b, recBytes(r)) {
			t.Fatalf("Rec(%v) = %v, want %v", r, b, recBytes(r))
		}
		wantReadRec(t, word.Read(b), r, 0)
	}
}

// 8.2: one record is consumed, whatever follows it.
func TestReadRecMore(t *testing.T) {
	var all []byte
	l := records()
	for _, r := range l {
		all = append(all, entry.Rec(r)...)
	}
	all = append(all, 1, 2, 3)
	r := word.Read(all)
	for i, want := range l {
		wantReadRec(t, r, want, 41*(len(l)-1-i)+3)
	}
	wantNoRec(t, r)
	if got := r.Take(3); !bytes.Equal(got, []byte{1, 2, 3}) {
		t.Fatalf("behind the records: %v", got)
	}
	wantNoRec(t, r)

	for more := range 90 {
		b := append(entry.Rec(sample().Rec), bytes.Repeat([]byte{0xee}, more)...)
		wantReadRec(t, word.Read(b), sample().Rec, more)
	}
}

// 8.2: a record behind other bytes is the next one.
func TestReadRecBehind(t *testing.T) {
	r := word.Read(append([]byte{9, 8, 7}, entry.Rec(sample().Rec)...))
	wantNoRec(t, r)
	if n := r.Num(3); n != 0x090807 {
		t.Fatalf("Num = %d", n)
	}
	wantReadRec(t, r, sample().Rec, 0)
}

// 8.2: fewer than RecSize bytes are no record, and the reader is reset.
func TestReadRecShort(t *testing.T) {
	for _, r := range []api.Rec{{}, sample().Rec} {
		b := entry.Rec(r)
		for n := range b {
			reader := word.Read(b[:n])
			wantNoRec(t, reader)
			wantNoRec(t, reader)
			if got := reader.Take(n); !bytes.Equal(got, b[:n]) || !reader.Right() {
				t.Fatalf("behind no record: %v, want %v", got, b[:n])
			}
		}
	}
	wantNoRec(t, word.Read(nil))
}

// 8.2: a Ghost byte that is neither 0 nor 1 makes no record.
func TestReadRecGhost(t *testing.T) {
	b := entry.Rec(sample().Rec)
	for ghost := 2; ghost < 256; ghost++ {
		b[24] = byte(ghost)
		r := word.Read(b)
		wantNoRec(t, r)
		if got := r.Take(41); !bytes.Equal(got, b) {
			t.Fatalf("behind no record: %v, want %v", got, b)
		}
	}
}

// 8.2: a value whose bytes are not a field makes no record.
func TestReadRecField(t *testing.T) {
	for length := 16; length < 256; length++ {
		b := recBytes(sample().Rec)
		b[25] = byte(length)
		r := word.Read(append(b, make([]byte, 300)...))
		wantNoRec(t, r)
		if got := r.Take(41); !bytes.Equal(got, b) {
			t.Fatalf("behind no record: %v, want %v", got, b)
		}
	}
	for length := range 15 {
		for at := 26 + length; at < 41; at++ {
			b := recBytes(api.Rec{Val: strings.Repeat("x", length)})
			b[at] = 1
			wantNoRec(t, word.Read(b))
		}
	}
}

// 8.2: a reader that has met an error has no record any more.
func TestReadRecFailed(t *testing.T) {
	b := entry.Rec(sample().Rec)
	for _, n := range []int{-1, 42, math.MinInt, math.MaxInt} {
		r := word.Read(b)
		r.Take(n)
		if r.Right() {
			t.Fatalf("Take(%d) is no error", n)
		}
		wantNoRec(t, r)
		wantNoRec(t, r)
	}
	r := word.Read(append([]byte{200, 0}, b...))
	r.Text(2)
	wantNoRec(t, r)
	if rec, ok := entry.ReadRec(nil); rec != (api.Rec{}) || ok {
		t.Fatalf("ReadRec of no reader = %v, %v", rec, ok)
	}
}

// 8.2: ReadRec accepts exactly what Rec returns: any byte changed makes another record or none.
func TestReadRecOnlyRec(t *testing.T) {
	b := entry.Rec(sample().Rec)
	for at := range b {
		for flip := 1; flip < 256; flip++ {
			c := slices.Clone(b)
			c[at] ^= byte(flip)
			rec, ok := entry.ReadRec(word.Read(c))
			switch {
			case !ok && rec != (api.Rec{}):
				t.Fatalf("ReadRec(%v) = %v beside false", c, rec)
			case !ok && at < 24:
				t.Fatalf("ReadRec(%v) is no record", c)
			case ok && !bytes.Equal(recBytes(rec), c):
				t.Fatalf("ReadRec(%v) = %v", c, rec)
			}
		}
	}
}

// 8.2 and R3: the result of Rec is new memory each time.
func TestRecNewMemory(t *testing.T) {
	r := sample().Rec
	a := entry.Rec(r)
	for i := range a {
		a[i] = 0xaa
	}
	_ = append(a[:0], make([]byte, 41)...)
	if b := entry.Rec(r); !bytes.Equal(b, recBytes(r)) {
		t.Fatalf("Rec changed to %v", b)
	}
}

// 8.2 and R3: bytes that are changed behind Read do not change the record.
func TestReadRecOwnMemory(t *testing.T) {
	b := entry.Rec(sample().Rec)
	r := word.Read(b)
	other := *r
	wantReadRec(t, r, sample().Rec, 0)
	clear(b)
	wantReadRec(t, &other, sample().Rec, 0)
}

// 8.3: the chapter's example: one page of which three bytes are stored, and one Active.
func TestExample(t *testing.T) {
	e := api.Entry{Kind: api.LogCheck, Pages: []api.Image{{Page: 4, P: api.Page{1, 0, 2}}}, Active: []uint64{9}}
	b := put(t, e)
	if len(b) != 93 {
		t.Fatalf("%d bytes, want 93", len(b))
	}
	want := make([]byte, 74, 93)
	want[0] = 10
	want = append(want, 1, 4, 3, 1, 0, 2, 1, 0, 0, 0, 0, 0, 0, 0, 9)
	if !bytes.Equal(b, sealed(want)) {
		t.Fatalf("Put = %v, want %v", b, sealed(want))
	}
	wantGet(t, b, e)
}

// 8.3, 8.5 and P6: each entry has the bytes of the chapter, and is decoded from them.
func TestPutGet(t *testing.T) {
	for _, e := range entries() {
		b := put(t, e)
		if want := sealed(bodyOf(e)); !bytes.Equal(b, want) {
			t.Fatalf("Put(%v) = %v, want %v", e, b, want)
		}
		wantGet(t, b, e)
		got, _ := entry.Get(b)
		if !entry.Same(got, e) {
			t.Fatalf("Get returns %v, which is not the Same as %v", got, e)
		}
		if again := put(t, got); !bytes.Equal(again, b) {
			t.Fatalf("Put(Get(%v)) = %v", b, again)
		}
	}
}

// 8.3 and P6: different entries have different encodings.
func TestPutDiffers(t *testing.T) {
	b := put(t, sample())
	for _, e := range changed() {
		if c, code := entry.Put(e); code == api.OK && bytes.Equal(b, c) {
			t.Fatalf("%v has the encoding of another entry", e)
		}
	}
}

// 8.3 and R3: empty lists are encoded as missing ones are, and decoded as either.
func TestPutEmpty(t *testing.T) {
	a := put(t, api.Entry{Kind: 1})
	b := put(t, api.Entry{Kind: 1, Pages: make([]api.Image, 0, 2), Active: make([]uint64, 0, 2)})
	if !bytes.Equal(a, b) || len(a) != 80 {
		t.Fatalf("%v and %v", a, b)
	}
	wantGet(t, a, api.Entry{Kind: 1})
}

// 8.3: zero bytes within a page are stored, those at its end are not.
func TestPutPageSizes(t *testing.T) {
	for at := range 224 {
		e := api.Entry{Kind: 3, Pages: []api.Image{{Page: 200, P: lone(at)}}}
		b := put(t, e)
		if len(b) != 80+2+at+1 || b[76] != byte(at+1) {
			t.Fatalf("a page whose byte %d is the last one: %v", at, b)
		}
	}
	if b := put(t, api.Entry{Kind: 3, Pages: numbered(200)}); len(b) != 82 || b[75] != 200 || b[76] != 0 {
		t.Fatalf("a blank page: %v", b)
	}
}

// 8.3: ErrBad for every shorter piece of an encoding, and for one with a byte more.
func TestGetPieces(t *testing.T) {
	for _, e := range []api.Entry{{Kind: 1}, sample(), {Kind: 10, Active: active(64)}} {
		b := put(t, e)
		for n := range b {
			wantNoGet(t, b[:n], api.ErrBad)
			if n > 0 {
				wantNoGet(t, b[n:], api.ErrBad)
			}
		}
		for c := range 256 {
			wantNoGet(t, append(slices.Clone(b), byte(c)), api.ErrBad)
			wantNoGet(t, append([]byte{byte(c)}, b...), api.ErrBad)
		}
	}
	wantNoGet(t, nil, api.ErrBad)
	wantNoGet(t, []byte{}, api.ErrBad)
}

// 8.3: ErrBad for an encoding of which any one byte is changed.
func TestGetChanged(t *testing.T) {
	for _, e := range []api.Entry{{Kind: 1}, sample()} {
		b := put(t, e)
		for at := range b {
			for flip := 1; flip < 256; flip++ {
				b[at] ^= byte(flip)
				wantNoGet(t, b, api.ErrBad)
				b[at] ^= byte(flip)
			}
		}
		wantGet(t, b, e)
	}
}

// 8.3: ErrForm for every shorter piece of what has the checksum, and for any byte more, under a checksum of their own.
func TestGetFormPieces(t *testing.T) {
	for _, e := range []api.Entry{{Kind: 1}, sample(), {Kind: 10, Active: active(64)}, {Kind: 2, Pages: images(0, 24)}} {
		body := bodyOf(e)
		for n := range body {
			wantNoGet(t, sealed(body[:n]), api.ErrForm)
		}
		for c := range 256 {
			wantNoGet(t, sealed(append(slices.Clone(body), byte(c))), api.ErrForm)
		}
		for more := 1; more < 20; more++ {
			wantNoGet(t, sealed(append(slices.Clone(body), make([]byte, more)...)), api.ErrForm)
		}
		wantGet(t, sealed(body), e)
	}
	wantNoGet(t, sealed(nil), api.ErrForm)
}

// 8.3: ErrForm for a kind that there is not.
func TestGetFormKind(t *testing.T) {
	for kind := range 256 {
		e := sample()
		e.Kind = kind
		if kind >= api.LogBegin && kind <= api.LogCheck {
			wantGet(t, sealed(bodyOf(e)), e)
		} else {
			wantNoGet(t, sealed(bodyOf(e)), api.ErrForm)
		}
	}
}

// 8.3: ErrForm for bytes that are no record.
func TestGetFormRec(t *testing.T) {
	body := bodyOf(sample())
	for _, at := range []int{33 + 24, 33 + 25} {
		for c := 16; c < 256; c++ {
			wrong := slices.Clone(body)
			wrong[at] = byte(c)
			wantNoGet(t, sealed(wrong), api.ErrForm)
		}
	}
	for at := 33 + 26 + len(sample().Rec.Val); at < 33+41; at++ {
		wrong := slices.Clone(body)
		wrong[at] = 1
		wantNoGet(t, sealed(wrong), api.ErrForm)
	}
}

// 8.3: ErrForm for more than 24 pages or 64 Active, all of which are there, and for a number that is not that of what is there.
func TestGetFormNumbers(t *testing.T) {
	for n := range 256 {
		pages := api.Entry{Kind: 2, Pages: numbered(sequence(n)...)}
		full := api.Entry{Kind: 2, Pages: images(0, n)}
		actives := api.Entry{Kind: 10, Active: active(n)}
		for _, e := range []api.Entry{pages, full, actives} {
			if len(e.Pages) <= 24 && len(e.Active) <= 64 {
				wantGet(t, sealed(bodyOf(e)), e)
			} else {
				wantNoGet(t, sealed(bodyOf(e)), api.ErrForm)
			}
		}
	}
	// No page, and no Active: each of the two numbers alone is not that of what is there.
	for n := 1; n < 256; n++ {
		for at := 74; at <= 75; at++ {
			body := bodyOf(api.Entry{Kind: 1})
			body[at] = byte(n)
			wantNoGet(t, sealed(body), api.ErrForm)
		}
	}
}

// sequence returns the numbers below n.
func sequence(n int) []int {
	var l []int
	for i := range n {
		l = append(l, i)
	}
	return l
}

// 8.3: ErrForm for page numbers that do not rise.
func TestGetFormPageNumbers(t *testing.T) {
	for a := range 256 {
		for _, b := range []int{0, 1, 100, 128, 254, 255, a, a - 1, a + 1} {
			if b < 0 || b > 255 {
				continue
			}
			e := api.Entry{Kind: 2, Pages: []api.Image{{Page: a, P: page(2)}, {Page: b, P: page(1)}}}
			if a < b {
				wantGet(t, sealed(bodyOf(e)), e)
			} else {
				wantNoGet(t, sealed(bodyOf(e)), api.ErrForm)
			}
		}
	}
}

// withPage returns the encoding of an entry with a single page, of which these bytes are stored.
func withPage(stored []byte) []byte {
	body := bodyOf(api.Entry{Kind: 2})
	body = append(body[:74], 1, 7, byte(len(stored)))
	body = append(body, stored...)
	return sealed(append(body, 0))
}

// 8.3: ErrForm for a last stored byte that is 0, and for more stored bytes than a page has.
func TestGetFormStored(t *testing.T) {
	for n := 1; n < 256; n++ {
		stored := bytes.Repeat([]byte{5}, n)
		if n <= 224 {
			e := api.Entry{Kind: 2, Pages: []api.Image{{Page: 7}}}
			copy(e.Pages[0].P[:], stored)
			wantGet(t, withPage(stored), e)
		} else {
			wantNoGet(t, withPage(stored), api.ErrForm)
		}
		stored[n-1] = 0
		wantNoGet(t, withPage(stored), api.ErrForm)
		wantNoGet(t, withPage(make([]byte, n)), api.ErrForm)
	}
	wantGet(t, withPage(nil), api.Entry{Kind: 2, Pages: numbered(7)})
}

// 8.3: a number of stored bytes that is not that of what is there.
func TestGetFormStoredNumber(t *testing.T) {
	body := bodyOf(api.Entry{Kind: 2, Pages: []api.Image{{Page: 7, P: page(9)}}})
	for n := range 256 {
		if n != 9 {
			wrong := slices.Clone(body)
			wrong[76] = byte(n)
			wantNoGet(t, sealed(wrong), api.ErrForm)
		}
	}
}

// 8.3, 8.5 and P6: Get accepts exactly what Put returns: with any byte changed and a valid checksum, the bytes are those of another entry, or of none.
func TestGetOnlyPut(t *testing.T) {
	e := sample()
	e.Pages = e.Pages[:2]
	body := bodyOf(e)
	for at := range body {
		for flip := 1; flip < 256; flip++ {
			c := slices.Clone(body)
			c[at] ^= byte(flip)
			wantSound(t, sealed(c))
		}
	}
}

// wantSound wants an entry whose Put is b, or none beside ErrForm.
func wantSound(t *testing.T, b []byte) (found bool) {
	t.Helper()
	e, code := entry.Get(b)
	switch code {
	case api.OK:
		if again, code := entry.Put(e); code != api.OK || !bytes.Equal(again, b) {
			t.Fatalf("Put(Get(%v)) = %v, %d", b, again, code)
		}
		return true
	case api.ErrForm:
		if !equal(e, api.Entry{}) {
			t.Fatalf("Get(%v) = %v beside ErrForm", b, e)
		}
	default:
		t.Fatalf("Get(%v): code %d", b, code)
	}
	return false
}

// chance is a series of numbers that is the same in each run.
type chance uint64

func (c *chance) below(n int) int {
	*c = *c*6364136223846793005 + 1442695040888963407
	return int(uint64(*c) >> 33 % uint64(n))
}

func (c *chance) number() uint64 {
	return uint64(c.below(1<<31))<<33 ^ uint64(c.below(1<<31))<<2 ^ uint64(c.below(4))
}

// entry returns any valid entry.
func (c *chance) entry() api.Entry {
	e := api.Entry{Kind: 1 + c.below(10), Lsn: c.number(), Txn: c.number(), Prev: c.number(), Next: c.number()}
	e.Rec = api.Rec{Id: c.number(), Key: c.number(), X: uint32(c.number()), Y: uint32(c.number()), Val: string(c.bytes(c.below(16))), Ghost: c.below(2) == 1}
	number := c.below(10)
	for range c.below(25) {
		image := api.Image{Page: number}
		copy(image.P[:], c.bytes(c.below(225)))
		e.Pages = append(e.Pages, image)
		number += 1 + c.below(10)
	}
	for range c.below(65) {
		e.Active = append(e.Active, c.number())
	}
	return e
}

// bytes returns n bytes, many of them 0.
func (c *chance) bytes(n int) []byte {
	b := make([]byte, n)
	for i := range b {
		if c.below(3) > 0 {
			b[i] = byte(c.below(256))
		}
	}
	return b
}

// 8.3, 8.5 and P6: any entries, there and back, and with bytes exchanged under a valid checksum.
func TestAnyEntries(t *testing.T) {
	seed := chance(8)
	for range 2000 {
		e := seed.entry()
		wantCheck(t, e, api.OK)
		b := put(t, e)
		if !bytes.Equal(b, sealed(bodyOf(e))) || len(b) > entry.Bound(len(e.Pages), len(e.Active)) {
			t.Fatalf("Put(%v) = %v", e, b)
		}
		wantGet(t, b, e)
		body := bodyOf(e)
		for range 3 {
			body[seed.below(len(body))] = byte(seed.below(256))
		}
		wantSound(t, sealed(body))
	}
}

// 8.3: bytes that are no entry's at all, with a valid checksum.
func TestAnyBytes(t *testing.T) {
	seed := chance(80)
	found := 0
	for range 20000 {
		// The record's value is blank in most of them, so that what follows plays a part.
		body := append([]byte{byte(seed.below(12))}, seed.bytes(32+24)...)
		body = append(body, byte(seed.below(3)))
		body = append(body, make([]byte, 16)...)
		for range seed.below(12) {
			body = append(body, byte(seed.below(4)))
		}
		if wantSound(t, sealed(body)) {
			found++
		}
	}
	if found == 0 {
		t.Fatal("not one of the bytes is an entry")
	}
}

// 8.4: the chapter's numbers.
func TestBound(t *testing.T) {
	for pages := range 25 {
		for active := range 65 {
			if got, want := entry.Bound(pages, active), 80+226*pages+8*active; got != want {
				t.Fatalf("Bound(%d, %d) = %d, want %d", pages, active, got, want)
			}
		}
	}
	if got := entry.Bound(24, 64); got != 6016 {
		t.Fatalf("Bound(24, 64) = %d", got)
	}
	if got := entry.Bound(1000000, 2000000); got != 242000080 {
		t.Fatalf("Bound(1000000, 2000000) = %d", got)
	}
}

// 8.4: the bound is reached by pages whose last byte is not 0, and by no other ones.
func TestBoundReached(t *testing.T) {
	for pages := range 25 {
		for _, n := range []int{0, 1, 63, 64} {
			e := api.Entry{Kind: 9, Lsn: math.MaxUint64, Rec: api.Rec{Val: strings.Repeat("v", 15), Ghost: true}, Pages: images(256-pages, pages), Active: active(n)}
			if got, want := len(put(t, e)), entry.Bound(pages, n); got != want {
				t.Fatalf("%d pages and %d Active have %d bytes, want %d", pages, n, got, want)
			}
			for i := range e.Pages {
				e.Pages[i].P[223] = 0
			}
			if got, want := len(put(t, e)), entry.Bound(pages, n)-pages; got != want {
				t.Fatalf("%d smaller pages and %d Active have %d bytes, want %d", pages, n, got, want)
			}
		}
	}
}

// R3: Check, Same and Put change nothing of an entry, and nothing behind its lists.
func TestArgumentsStay(t *testing.T) {
	pages := append(slices.Clone(sample().Pages), api.Image{Page: 999, P: page(3)})
	actives := append(slices.Clone(sample().Active), 77)
	e := sample()
	e.Pages, e.Active = pages[:3], actives[:3]
	b := put(t, e)
	entry.Check(e)
	entry.Same(e, sample())
	entry.Same(sample(), e)
	if !equal(e, sample()) || pages[3] != (api.Image{Page: 999, P: page(3)}) || actives[3] != 77 {
		t.Fatalf("the entry is %v, behind it are %v and %v", e, pages[3], actives[3])
	}
	if !bytes.Equal(b, sealed(bodyOf(sample()))) {
		t.Fatalf("Put = %v", b)
	}
}

// R3: what Put returned stays when the entry is changed, and the other way round.
func TestPutNewMemory(t *testing.T) {
	e := copyOf(sample())
	b := put(t, e)
	e.Pages[0].P[0], e.Active[0] = 99, 99
	if !bytes.Equal(b, sealed(bodyOf(sample()))) {
		t.Fatal("what Put returned has changed with the entry")
	}
	e = copyOf(sample())
	for i := range b {
		b[i] = 0xee
	}
	if !equal(e, sample()) || !bytes.Equal(put(t, e), sealed(bodyOf(sample()))) {
		t.Fatal("the entry has changed with what Put returned")
	}
}

// R3: Get changes nothing of its bytes, reads nothing behind them, and its result is new memory.
func TestGetMemory(t *testing.T) {
	want := sealed(bodyOf(sample()))
	long := append(slices.Clone(want), 1, 2, 3)
	b := long[:len(want)]
	wantGet(t, b, sample())
	if !bytes.Equal(long, append(slices.Clone(want), 1, 2, 3)) {
		t.Fatal("Get has changed its bytes, or those behind them")
	}
	wantNoGet(t, long[:len(want)-1], api.ErrBad)

	first, _ := entry.Get(b)
	second, _ := entry.Get(b)
	first.Pages[0].P[0], first.Active[0] = 99, 99
	_ = append(first.Pages[:1], api.Image{Page: 5})
	_ = append(first.Active[:1], 5)
	if !equal(second, sample()) || !bytes.Equal(b, want) {
		t.Fatal("a result has changed another one, or the bytes")
	}
	clear(b)
	if !equal(second, sample()) {
		t.Fatal("a result has changed with the bytes")
	}
}
