package wal_test

import (
	"bytes"
	"hash/crc32"
	"math"
	"slices"
	"strings"
	"testing"

	"counterpane/api"
	"counterpane/entry"
	"counterpane/platter"
	"counterpane/wal"
)

// noise returns a function for numbers below a limit that look random and are the same in every run.
func noise(seed uint64) func(limit int) int {
	x := seed*0x9e3779b97f4a7c15 + 1
	return func(limit int) int {
		x ^= x << 13
		x ^= x >> 7
		x ^= x << 17
		return int(x>>33) % limit
	}
}

// bytesOf returns n bytes, none of them 0, of which neighbours differ.
func bytesOf(n int) []byte {
	b := make([]byte, n)
	for i := range b {
		b[i] = byte(1 + 7*i%255)
	}
	return b
}

// sector returns a sector that is no log's.
func sector(n int) api.Sector {
	var s api.Sector
	for i := range s {
		s[i] = byte(200 + n + 11*i)
	}
	return s
}

// laid returns the sectors for b from position at on, put together byte by byte.
func laid(b []byte, at int) []api.Sector {
	l := make([]api.Sector, (len(b)+53)/54)
	for i := range l {
		for j := range 8 {
			l[i][7-j] = byte(uint64(at+i+1) >> (8 * j))
		}
	}
	for i, c := range b {
		l[i/54][9]++
		l[i/54][10+i%54] = c
	}
	if len(l) > 0 {
		l[0][8]++
		l[len(l)-1][8] += 2
	}
	return l
}

// sized returns an entry whose encoding has n bytes; n is 80 or at least 82.
func sized(n int) api.Entry {
	e := api.Entry{Kind: api.LogPut, Txn: uint64(n), Prev: 5, Next: 6, Rec: api.Rec{Id: 9, Key: 0x0102030405060708, X: 3, Y: 4, Val: "value"}}
	for rest := n - 80; rest > 0; {
		share := min(rest, 226)
		if rest-share == 1 {
			share--
		}
		image := api.Image{Page: 2 * len(e.Pages)}
		copy(image.P[:], bytesOf(share-2))
		e.Pages = append(e.Pages, image)
		rest -= share
	}
	return e
}

// taking returns an entry that takes n sectors, at least 2.
func taking(n int) api.Entry {
	e := sized(54*n - 20)
	e.Txn = uint64(n)
	return e
}

// numbered returns e with a number as its Lsn.
func numbered(e api.Entry, lsn uint64) api.Entry {
	e.Lsn = lsn
	return e
}

// copyOf returns an entry that shares no memory with e.
func copyOf(e api.Entry) api.Entry {
	e.Pages = slices.Clone(e.Pages)
	e.Active = slices.Clone(e.Active)
	return e
}

// put returns the bytes of an entry.
func put(t *testing.T, e api.Entry) []byte {
	t.Helper()
	b, code := entry.Put(e)
	if code != api.OK {
		t.Fatalf("entry.Put(%v): code %d", e, code)
	}
	return b
}

// chain returns entries one after the other from position 0 on, with their numbers, and the sectors that they take.
func chain(t *testing.T, l ...api.Entry) ([]api.Entry, []api.Sector) {
	t.Helper()
	var entries []api.Entry
	var sectors []api.Sector
	for _, e := range l {
		e = numbered(copyOf(e), uint64(len(sectors)+1))
		entries = append(entries, e)
		sectors = append(sectors, laid(put(t, e), len(sectors))...)
	}
	return entries, sectors
}

// equal compares two lists of entries field by field.
func equal(a, b []api.Entry) bool {
	return slices.EqualFunc(a, b, func(x, y api.Entry) bool {
		return x.Lsn == y.Lsn && x.Kind == y.Kind && x.Txn == y.Txn && x.Prev == y.Prev && x.Next == y.Next && x.Rec == y.Rec && slices.Equal(x.Pages, y.Pages) && slices.Equal(x.Active, y.Active)
	})
}

// fresh returns a disk of n zero sectors.
func fresh(t *testing.T, n int) *platter.Platter {
	t.Helper()
	d, code := platter.New(n)
	if code != api.OK {
		t.Fatal(code)
	}
	return d
}

// disk returns a disk of these sectors behind a single write.
func disk(t *testing.T, l []api.Sector) *platter.Platter {
	t.Helper()
	d := fresh(t, len(l))
	if code := d.Write(0, l); code != api.OK {
		t.Fatal(code)
	}
	return d
}

// framed returns a disk with the sectors of a log between three and two that are not its own.
func framed(t *testing.T, own []api.Sector) *platter.Platter {
	t.Helper()
	l := []api.Sector{sector(0), sector(1), sector(2)}
	l = append(l, own...)
	return disk(t, append(l, sector(3), sector(4)))
}

// base is where the log of a framed disk begins.
const base = 3

// wantFramed wants the sectors of the log of a framed disk, zeros up to its size, and those of nobody around it.
func wantFramed(t *testing.T, d *platter.Platter, size int, own []api.Sector) {
	t.Helper()
	want := []api.Sector{sector(0), sector(1), sector(2)}
	want = append(want, own...)
	want = append(want, make([]api.Sector, size-len(own))...)
	want = append(want, sector(3), sector(4))
	for i, s := range d.Image() {
		if s != want[i] {
			t.Fatalf("sector %d of the disk (%d of the log) is %v, want %v", i, i-base, s, want[i])
		}
	}
}

func wantWrites(t *testing.T, d *platter.Platter, want int) {
	t.Helper()
	if got := d.Writes(); got != want {
		t.Fatalf("Writes = %d, want %d", got, want)
	}
}

// torn returns a disk whose power is off.
func torn(t *testing.T, d *platter.Platter) *platter.Platter {
	t.Helper()
	d.Fuse(0, nil)
	if code := d.Write(0, []api.Sector{{}}); code != api.ErrDown {
		t.Fatal(code)
	}
	return d
}

// create returns an empty log.
func create(t *testing.T, d *platter.Platter, base, size int) *wal.Log {
	t.Helper()
	l, code := wal.New(d, base, size)
	if code != api.OK || l == nil {
		t.Fatalf("New(%d, %d) = %v, %d", base, size, l, code)
	}
	return l
}

// open returns the log that is on a disk.
func open(t *testing.T, d *platter.Platter, base, size int) *wal.Log {
	t.Helper()
	l, code := wal.Open(d, base, size)
	if code != api.OK || l == nil {
		t.Fatalf("Open(%d, %d) = %v, %d", base, size, l, code)
	}
	return l
}

func wantNoOpen(t *testing.T, d *platter.Platter, base, size int, want api.Code) {
	t.Helper()
	if l, code := wal.Open(d, base, size); l != nil || code != want {
		t.Fatalf("Open(%d, %d) = %v, %d, want the code %d alone", base, size, l, code, want)
	}
}

func wantAppend(t *testing.T, l *wal.Log, e api.Entry, want uint64) {
	t.Helper()
	if got, code := l.Append(e); got != want || code != api.OK {
		t.Fatalf("Append = %d, %d, want %d", got, code, want)
	}
}

func wantNoAppend(t *testing.T, l *wal.Log, e api.Entry, want api.Code) {
	t.Helper()
	if got, code := l.Append(e); got != 0 || code != want {
		t.Fatalf("Append = %d, %d, want the code %d alone", got, code, want)
	}
}

func wantForce(t *testing.T, l *wal.Log, want api.Code) {
	t.Helper()
	if got := l.Force(); got != want {
		t.Fatalf("Force = %d, want %d", got, want)
	}
}

// wantLog checks all that a log of so many sectors tells: its entries, how many sectors they take, and how many of these are durable.
func wantLog(t *testing.T, l *wal.Log, size int, entries []api.Entry, used, forced int) {
	t.Helper()
	if l.Used() != used || l.Left() != size-used || l.Next() != uint64(used+1) {
		t.Fatalf("Used, Left, Next = %d, %d, %d, want %d, %d, %d", l.Used(), l.Left(), l.Next(), used, size-used, used+1)
	}
	if got := l.All(); !equal(got, entries) {
		t.Fatalf("All = %v, want %v", got, entries)
	}
	for _, lsn := range askedFor(size) {
		if got := l.Forced(lsn); got != (lsn <= uint64(forced)) {
			t.Fatalf("Forced(%d) = %v, %d sectors are durable", lsn, got, forced)
		}
		wantFind(t, l, entries, lsn)
	}
}

// askedFor returns all numbers that entries of a log of so many sectors can have, and others.
func askedFor(size int) []uint64 {
	l := []uint64{math.MaxUint32, 1 << 32, 1<<32 + 1, math.MaxInt64, 1 << 63, 1<<63 + 1, math.MaxUint64 - 1, math.MaxUint64}
	for n := range uint64(size + 3) {
		l = append(l, n)
	}
	return l
}

// wantFind wants the one of the entries that has a number, or none.
func wantFind(t *testing.T, l *wal.Log, entries []api.Entry, lsn uint64) {
	t.Helper()
	want := api.Entry{}
	at := slices.IndexFunc(entries, func(e api.Entry) bool { return e.Lsn == lsn })
	if at >= 0 {
		want = entries[at]
	}
	if e, ok := l.Find(lsn); ok != (at >= 0) || !equal([]api.Entry{e}, []api.Entry{want}) {
		t.Fatalf("Find(%d) = %v, %v, want %v", lsn, e, ok, want)
	}
}

// wantJoin wants the entries that sectors hold, and how many they take.
func wantJoin(t *testing.T, l []api.Sector, want []api.Entry, taken int) {
	t.Helper()
	if got, n := wal.Join(l); !equal(got, want) || n != taken {
		t.Fatalf("Join(%v) = %v, %d, want %v, %d", l, got, n, want, taken)
	}
}

// 9.1: the number of sectors for n bytes, 0 if n is less than 1.
func TestSectors(t *testing.T) {
	for _, n := range []int{math.MinInt, math.MinInt + 1, -1 << 32, -109, -55, -54, -53, -1, 0} {
		if got := wal.Sectors(n); got != 0 {
			t.Errorf("Sectors(%d) = %d", n, got)
		}
	}
	for n, want := range map[int]int{1: 1, 53: 1, 54: 1, 55: 2, 60: 2, 107: 2, 108: 2, 109: 3, 6016: 112, math.MaxInt32: 39768216, math.MaxInt: math.MaxInt/54 + 1, math.MaxInt - 1: math.MaxInt/54 + 1} {
		if got := wal.Sectors(n); got != want {
			t.Errorf("Sectors(%d) = %d, want %d", n, got, want)
		}
	}
	for n := 1; n < 3000; n++ {
		if got, want := wal.Sectors(n), len(laid(make([]byte, n), 0)); got != want {
			t.Fatalf("Sectors(%d) = %d, want %d", n, got, want)
		}
	}
}

// 9.1: the chapter's example: 60 bytes from position 3 on.
func TestCutExample(t *testing.T) {
	b := bytesOf(60)
	l := wal.Cut(b, 3)
	if len(l) != 2 {
		t.Fatalf("%d sectors", len(l))
	}
	if want := []byte{0, 0, 0, 0, 0, 0, 0, 4, 1, 54}; !bytes.Equal(l[0][:10], want) || !bytes.Equal(l[0][10:], b[:54]) {
		t.Errorf("the first sector is %v", l[0])
	}
	if want := []byte{0, 0, 0, 0, 0, 0, 0, 5, 2, 6}; !bytes.Equal(l[1][:10], want) || !bytes.Equal(l[1][10:16], b[54:]) || !bytes.Equal(l[1][16:], make([]byte, 48)) {
		t.Errorf("the second sector is %v", l[1])
	}
}

// 9.1: every field of every sector, for all numbers of bytes around those that fill sectors, and from many positions on.
func TestCut(t *testing.T) {
	for _, n := range []int{1, 2, 53, 54, 55, 60, 107, 108, 109, 161, 162, 163, 216, 1000, 6016, 20000} {
		for _, at := range []int{0, 1, 2, 3, 53, 54, 253, 254, 255, 256, 7999, 65534, 65535, math.MaxUint32 - 1, math.MaxUint32, 0x0102030405060707, math.MaxInt - 1000} {
			for _, b := range [][]byte{bytesOf(n), make([]byte, n), bytes.Repeat([]byte{0xff}, n)} {
				got, want := wal.Cut(b, at), laid(b, at)
				if len(got) != len(want) || len(got) != wal.Sectors(n) {
					t.Fatalf("Cut of %d bytes: %d sectors, want %d", n, len(got), len(want))
				}
				for i := range want {
					if got[i] != want[i] {
						t.Fatalf("Cut of %d bytes from %d on: sector %d is %v, want %v", n, at, i, got[i], want[i])
					}
				}
			}
		}
	}
}

// 9.1: the marks: a lone sector is both the first and the last one.
func TestCutMarks(t *testing.T) {
	for n, want := range map[int][]byte{1: {3}, 54: {3}, 55: {1, 2}, 108: {1, 2}, 109: {1, 0, 2}, 162: {1, 0, 2}, 163: {1, 0, 0, 2}} {
		for _, at := range []int{0, 7} {
			var got []byte
			for _, s := range wal.Cut(bytesOf(n), at) {
				got = append(got, s[8])
			}
			if !bytes.Equal(got, want) {
				t.Errorf("the marks of %d bytes from %d on are %v, want %v", n, at, got, want)
			}
		}
	}
}

// 9.1: no bytes take no sectors, be they nil or not, and whatever lies behind them.
func TestCutNothing(t *testing.T) {
	for _, b := range [][]byte{nil, {}, bytesOf(100)[:0]} {
		for _, at := range []int{0, 1, 100} {
			if l := wal.Cut(b, at); len(l) != 0 {
				t.Errorf("Cut(%v, %d) = %v", b, at, l)
			}
		}
	}
}

// 9.1 and R3: Cut neither changes its bytes nor reads those behind them, and its result does not share their memory.
func TestCutLeavesArgument(t *testing.T) {
	all := bytesOf(200)
	l := wal.Cut(all[:60], 3)
	if !bytes.Equal(all, bytesOf(200)) {
		t.Fatalf("Cut changed its argument to %v", all)
	}
	clear(all)
	if want := laid(bytesOf(60), 3); !slices.Equal(l, want) {
		t.Fatalf("the sectors are now %v, want %v", l, want)
	}
	all = bytesOf(60)
	for i, s := range wal.Cut(all, 3) {
		clear(s[:])
		wal.Cut(all, i)
	}
	spoil(wal.Cut(all, 3))
	if !bytes.Equal(all, bytesOf(60)) {
		t.Fatalf("whoever writes to the sectors writes to the bytes: %v", all)
	}
}

// spoil overwrites all memory of a slice, also behind its length.
func spoil(l []api.Sector) {
	l = l[:cap(l)]
	for i := range l {
		l[i] = sector(99)
	}
}

// 9.2: ErrArg if the disk is nil, whatever base and size are.
func TestNewNil(t *testing.T) {
	for _, base := range []int{0, -1, 5, math.MinInt, math.MaxInt} {
		for _, size := range []int{1, 0, -1, 5, math.MinInt, math.MaxInt} {
			if l, code := wal.New(nil, base, size); l != nil || code != api.ErrArg {
				t.Errorf("New(nil, %d, %d) = %v, %d", base, size, l, code)
			}
			wantNoOpen(t, nil, base, size, api.ErrArg)
		}
	}
}

// extremes returns numbers around those that matter for a disk of 10 sectors, and the limits.
func extremes() []int {
	l := []int{math.MinInt, math.MinInt + 1, math.MinInt + 9, math.MinInt + 10, -1 << 32, -11, -10, -9, 1<<32 - 1, 1 << 32, 1<<32 + 1, math.MaxInt / 2, math.MaxInt/2 + 1, math.MaxInt - 10, math.MaxInt - 9, math.MaxInt - 1, math.MaxInt}
	for n := -3; n <= 13; n++ {
		l = append(l, n)
	}
	return l
}

// 9.2 and 9.4: ErrRange if base is negative, size is less than 1, or the disk does not have all sectors; on a disk with power and without.
func TestNewRange(t *testing.T) {
	d, off := fresh(t, 10), torn(t, fresh(t, 10))
	for _, base := range extremes() {
		for _, size := range extremes() {
			if base >= 0 && size >= 1 && base < 10 && size <= 10 && base+size <= 10 {
				wantLog(t, create(t, d, base, size), size, nil, 0, 0)
				wantLog(t, open(t, d, base, size), size, nil, 0, 0)
				wantNoOpen(t, off, base, size, api.ErrDown)
				continue
			}
			for _, d := range []*platter.Platter{d, off} {
				if l, code := wal.New(d, base, size); l != nil || code != api.ErrRange {
					t.Fatalf("New(%d, %d) = %v, %d", base, size, l, code)
				}
				wantNoOpen(t, d, base, size, api.ErrRange)
			}
		}
	}
}

// 9.2: New makes no write, also where the power has failed.
func TestNewWritesNothing(t *testing.T) {
	d := framed(t, make([]api.Sector, 9))
	wantLog(t, create(t, d, base, 9), 9, nil, 0, 0)
	wantWrites(t, d, 1)
	wantFramed(t, d, 9, nil)
	torn(t, d)
	wantLog(t, create(t, d, base, 9), 9, nil, 0, 0)
	d.Up()
	wantWrites(t, d, 1)
	wantFramed(t, d, 9, nil)
}

// 9.2: the numbers of entries, and what Append and Force change of what the log tells and of the disk.
func TestAppendAndForce(t *testing.T) {
	const size = 20
	entries, sectors := chain(t, taking(2), sized(80), taking(5), taking(3))
	d := framed(t, make([]api.Sector, size))
	l := create(t, d, base, size)
	wantAppend(t, l, entries[0], 1)
	wantLog(t, l, size, entries[:1], 2, 0)
	wantFramed(t, d, size, nil)
	wantForce(t, l, api.OK)
	wantLog(t, l, size, entries[:1], 2, 2)
	wantFramed(t, d, size, sectors[:2])
	wantWrites(t, d, 2)
	wantAppend(t, l, entries[1], 3)
	wantLog(t, l, size, entries[:2], 4, 2)
	wantAppend(t, l, entries[2], 5)
	wantLog(t, l, size, entries[:3], 9, 2)
	wantFramed(t, d, size, sectors[:2])
	wantForce(t, l, api.OK)
	wantLog(t, l, size, entries[:3], 9, 9)
	wantFramed(t, d, size, sectors[:9])
	wantWrites(t, d, 3)
	wantAppend(t, l, entries[3], 10)
	wantLog(t, l, size, entries, 12, 9)
	wantWrites(t, d, 3)
	wantForce(t, l, api.OK)
	wantLog(t, l, size, entries, 12, 12)
	wantFramed(t, d, size, sectors)
	wantWrites(t, d, 4)
}

// 9.2: Force makes no write if there is nothing to write, not even where the power has failed or fails in the next write.
func TestForceNothing(t *testing.T) {
	entries, sectors := chain(t, taking(2))
	d := framed(t, make([]api.Sector, 6))
	l := create(t, d, base, 6)
	for range 3 {
		wantForce(t, l, api.OK)
		wantWrites(t, d, 1)
	}
	wantAppend(t, l, entries[0], 1)
	wantForce(t, l, api.OK)
	for range 3 {
		wantForce(t, l, api.OK)
		wantWrites(t, d, 2)
	}
	d.Fuse(0, nil)
	wantForce(t, l, api.OK)
	if d.Down() {
		t.Fatal("a write was made")
	}
	torn(t, d)
	wantForce(t, l, api.OK)
	d.Up()
	wantForce(t, open(t, d, base, 6), api.OK)
	wantWrites(t, d, 3)
	wantFramed(t, d, 6, sectors)
	wantLog(t, l, 6, entries, 2, 2)
}

// 9.2: a Force that fails leaves everything to the next one, also what is appended meanwhile.
func TestForceAgain(t *testing.T) {
	entries, sectors := chain(t, taking(2), taking(3), taking(2), taking(4))
	const size = 15
	d := framed(t, make([]api.Sector, size))
	l := create(t, d, base, size)
	wantAppend(t, l, entries[0], 1)
	wantForce(t, l, api.OK)
	wantAppend(t, l, entries[1], 3)
	wantAppend(t, l, entries[2], 6)
	d.Fuse(0, []bool{false, true})
	wantForce(t, l, api.ErrDown)
	for range 3 {
		wantForce(t, l, api.ErrDown)
		wantLog(t, l, size, entries[:3], 7, 2)
		wantWrites(t, d, 2)
	}
	wantAppend(t, l, entries[3], 8)
	wantForce(t, l, api.ErrDown)
	wantLog(t, l, size, entries, 11, 2)
	wantFramed(t, d, size, []api.Sector{sectors[0], sectors[1], {}, sectors[3]})
	d.Up()
	wantForce(t, l, api.OK)
	wantLog(t, l, size, entries, 11, 11)
	wantFramed(t, d, size, sectors)
	wantWrites(t, d, 3)
	wantForce(t, l, api.OK)
	wantWrites(t, d, 3)
}

// 9.2: the power fails in the second Force only.
func TestForceBeforeFailure(t *testing.T) {
	entries, sectors := chain(t, taking(2), taking(3))
	d := framed(t, make([]api.Sector, 9))
	l := create(t, d, base, 9)
	d.Fuse(1, []bool{true, true})
	wantAppend(t, l, entries[0], 1)
	wantForce(t, l, api.OK)
	wantAppend(t, l, entries[1], 3)
	wantForce(t, l, api.ErrDown)
	wantFramed(t, d, 9, sectors[:4])
	wantLog(t, l, 9, entries, 5, 2)
}

// 9.2: Append sets Lsn, whatever it was, in the log and on the disk.
func TestAppendSetsLsn(t *testing.T) {
	entries, sectors := chain(t, taking(2), taking(3), taking(2))
	for _, lsn := range []uint64{0, 1, 2, 3, 5, 6, 255, 1 << 63, math.MaxUint64} {
		d := framed(t, make([]api.Sector, 9))
		l := create(t, d, base, 9)
		wantAppend(t, l, numbered(entries[0], lsn), 1)
		wantAppend(t, l, numbered(entries[1], lsn), 3)
		wantAppend(t, l, numbered(entries[2], lsn), 6)
		wantForce(t, l, api.OK)
		wantLog(t, l, 9, entries, 7, 7)
		wantFramed(t, d, 9, sectors)
	}
}

// rejected returns entries with each error of entry.Put.
func rejected() map[api.Code][]api.Entry {
	manyPages := api.Entry{Kind: 1}
	for i := range 25 {
		manyPages.Pages = append(manyPages.Pages, api.Image{Page: i})
	}
	return map[api.Code][]api.Entry{
		api.ErrArg:   {{}, {Kind: 11}, {Kind: -1}, {Kind: math.MaxInt}, {Rec: api.Rec{Val: strings.Repeat("v", 16)}}},
		api.ErrSize:  {{Kind: 2, Rec: api.Rec{Val: strings.Repeat("v", 16)}}, {Kind: 2, Rec: api.Rec{Val: strings.Repeat("v", 16)}, Active: make([]uint64, 65)}},
		api.ErrLimit: {manyPages, {Kind: 10, Active: make([]uint64, 65)}},
		api.ErrRange: {{Kind: 2, Pages: []api.Image{{Page: -1}}}, {Kind: 2, Pages: []api.Image{{Page: 256}}}, {Kind: 2, Pages: []api.Image{{Page: 3}, {Page: 3}}}},
	}
}

// 9.2 and R6: Append returns the error of entry.Put, also in a full log, and changes nothing then.
func TestAppendRejected(t *testing.T) {
	entries, sectors := chain(t, taking(2), taking(3))
	for _, size := range []int{5, 6, 100} {
		d := framed(t, make([]api.Sector, size))
		l := create(t, d, base, size)
		for want, list := range rejected() {
			for _, e := range list {
				wantNoAppend(t, l, e, want)
				wantLog(t, l, size, nil, 0, 0)
			}
		}
		wantAppend(t, l, entries[0], 1)
		wantForce(t, l, api.OK)
		wantAppend(t, l, entries[1], 3)
		for want, list := range rejected() {
			for _, e := range list {
				wantNoAppend(t, l, e, want)
				wantLog(t, l, size, entries, 5, 2)
			}
		}
		wantForce(t, l, api.OK)
		wantFramed(t, d, size, sectors)
		l = open(t, d, base, size)
		wantNoAppend(t, l, api.Entry{}, api.ErrArg)
		wantLog(t, l, size, entries, 5, 5)
	}
}

// 9.2: ErrFull if fewer sectors are left than the entry needs, which changes nothing; one that fits is appended all the same.
func TestAppendFull(t *testing.T) {
	for size := 1; size <= 12; size++ {
		for n := 2; n <= 13; n++ {
			d := framed(t, make([]api.Sector, size))
			l := create(t, d, base, size)
			if n > size {
				wantNoAppend(t, l, taking(n), api.ErrFull)
				wantLog(t, l, size, nil, 0, 0)
				wantForce(t, l, api.OK)
				wantWrites(t, d, 1)
				continue
			}
			entries, sectors := chain(t, taking(n))
			wantAppend(t, l, entries[0], 1)
			left := size - n
			wantNoAppend(t, l, taking(max(2, left+1)), api.ErrFull)
			wantLog(t, l, size, entries, n, 0)
			if left >= 2 {
				entries, sectors = chain(t, taking(n), taking(left))
				wantAppend(t, l, entries[1], uint64(n+1))
				wantLog(t, l, size, entries, size, 0)
			}
			wantForce(t, l, api.OK)
			wantNoAppend(t, l, sized(80), api.ErrFull)
			wantLog(t, l, size, entries, len(sectors), len(sectors))
			wantFramed(t, d, size, sectors)
			wantWrites(t, d, 2)
		}
	}
}

// 9.2: an entry needs no more sectors than its bytes fill: sizes around those that fill the last sector.
func TestAppendSizes(t *testing.T) {
	for _, n := range []int{80, 82, 83, 107, 108, 109, 110, 161, 162, 163, 216, 217, 5400, 5401, 5504} {
		entries, sectors := chain(t, sized(n))
		if got := len(put(t, entries[0])); got != n {
			t.Fatalf("%d bytes, want %d", got, n)
		}
		size := (n + 53) / 54
		d := framed(t, make([]api.Sector, size))
		l := create(t, d, base, size)
		wantAppend(t, l, entries[0], 1)
		wantForce(t, l, api.OK)
		wantLog(t, l, size, entries, size, size)
		wantFramed(t, d, size, sectors)
		wantLog(t, open(t, d, base, size), size, entries, size, size)
		d = framed(t, make([]api.Sector, size-1))
		wantNoAppend(t, create(t, d, base, size-1), entries[0], api.ErrFull)
	}
}

// largest returns an entry that is as large as can be: 6016 bytes.
func largest() api.Entry {
	e := api.Entry{Kind: api.LogCheck, Lsn: 3, Txn: math.MaxUint64, Prev: math.MaxUint64, Next: math.MaxUint64, Rec: api.Rec{Id: math.MaxUint64, Key: math.MaxUint64, X: math.MaxUint32, Y: math.MaxUint32, Val: strings.Repeat("\xff", 15), Ghost: true}}
	for i := range 24 {
		image := api.Image{Page: 232 + i}
		copy(image.P[:], bytesOf(224))
		e.Pages = append(e.Pages, image)
	}
	for i := range 64 {
		e.Active = append(e.Active, math.MaxUint64-uint64(i))
	}
	return e
}

// 9.2 to 9.4: entries of all kinds and sizes in one log: each is found again as it was.
func TestEntriesOfAllKinds(t *testing.T) {
	list := []api.Entry{largest()}
	for kind := api.LogBegin; kind <= api.LogCheck; kind++ {
		e := sized(80 + 37*kind)
		e.Kind = kind
		list = append(list, e, api.Entry{Kind: kind}, api.Entry{Kind: kind, Active: []uint64{uint64(kind), 0, 1}})
	}
	entries, sectors := chain(t, append(list, largest())...)
	size := len(sectors) + 1
	d := framed(t, make([]api.Sector, size))
	l := create(t, d, base, size)
	for i, e := range entries {
		wantAppend(t, l, numbered(e, 77), e.Lsn)
		if i%5 == 4 {
			wantForce(t, l, api.OK)
		}
	}
	wantForce(t, l, api.OK)
	wantLog(t, l, size, entries, size-1, size-1)
	wantFramed(t, d, size, sectors)
	wantJoin(t, sectors, entries, size-1)
	wantLog(t, open(t, d, base, size), size, entries, size-1, size-1)
}

// 9.2: a log on the largest disk: the limits of the disk are the only ones.
func TestLargeLog(t *testing.T) {
	d := fresh(t, platter.MaxSectors)
	l := create(t, d, 0, platter.MaxSectors)
	var entries []api.Entry
	for l.Left() >= 2 {
		e := api.Entry{Kind: api.LogBegin, Lsn: l.Next()}
		wantAppend(t, l, e, e.Lsn)
		entries = append(entries, e)
	}
	wantForce(t, l, api.OK)
	if l.Left() != 0 || !l.Forced(platter.MaxSectors) || l.Forced(platter.MaxSectors+1) {
		t.Fatalf("Left = %d", l.Left())
	}
	if got := open(t, d, 0, platter.MaxSectors).All(); !equal(got, entries) {
		t.Fatalf("%d entries, want %d", len(got), len(entries))
	}
	wantWrites(t, d, 1)
}

// 9.2: two logs on one disk, side by side, do not notice each other.
func TestTwoLogs(t *testing.T) {
	entriesA, sectorsA := chain(t, taking(2), taking(2))
	entriesB, sectorsB := chain(t, taking(3), taking(2))
	d := fresh(t, 9)
	a, b := create(t, d, 0, 4), create(t, d, 4, 5)
	for i := range 2 {
		wantAppend(t, a, entriesA[i], entriesA[i].Lsn)
		wantAppend(t, b, entriesB[i], entriesB[i].Lsn)
		wantForce(t, b, api.OK)
		wantForce(t, a, api.OK)
	}
	if got := d.Image(); !slices.Equal(got, append(sectorsA, sectorsB...)) {
		t.Fatalf("the disk is %v", got)
	}
	wantLog(t, open(t, d, 4, 5), 5, entriesB, 5, 5)
	wantLog(t, open(t, d, 0, 4), 4, entriesA, 4, 4)
}

// 9.3: no sectors hold no entries.
func TestJoinNothing(t *testing.T) {
	_, sectors := chain(t, taking(2))
	wantJoin(t, nil, nil, 0)
	wantJoin(t, []api.Sector{}, nil, 0)
	wantJoin(t, sectors[:0], nil, 0)
	wantJoin(t, make([]api.Sector, 5), nil, 0)
	wantJoin(t, []api.Sector{sector(0), sector(1)}, nil, 0)
}

// complete returns how many entries lie within the first so many sectors, and how many sectors these take.
func complete(t *testing.T, entries []api.Entry, n int) (int, int) {
	t.Helper()
	taken := 0
	for i, e := range entries {
		size := (len(put(t, e)) + 53) / 54
		if taken+size > n {
			return i, taken
		}
		taken += size
	}
	return len(entries), taken
}

// wantFirst wants those of the entries that lie within the first so many sectors.
func wantFirst(t *testing.T, l []api.Sector, entries []api.Entry, n int) {
	t.Helper()
	count, taken := complete(t, entries, n)
	wantJoin(t, l, entries[:count], taken)
}

// 9.3: the sectors of several entries, each shorter piece of them, and what may follow.
func TestJoinPieces(t *testing.T) {
	entries, sectors := chain(t, taking(2), sized(108), sized(109), largest(), sized(80), taking(3))
	for n := range len(sectors) + 1 {
		piece := slices.Clone(sectors[:n])
		wantFirst(t, piece, entries, n)
		wantFirst(t, append(piece, api.Sector{}), entries, n)
		wantFirst(t, append(piece, sector(0)), entries, n)
		wantFirst(t, append(piece, sectors[0]), entries, n)
		wantFirst(t, append(piece, make([]api.Sector, 200)...), entries, n)
	}
}

// 9.3: sectors that do not begin at position 0 hold nothing.
func TestJoinElsewhere(t *testing.T) {
	entries, sectors := chain(t, taking(2), taking(3), taking(2))
	for n := 1; n < len(sectors); n++ {
		wantJoin(t, sectors[n:], nil, 0)
	}
	for _, at := range []int{1, 2, 3, 255, 256, 1 << 32, math.MaxInt - 9} {
		wantJoin(t, laid(put(t, entries[0]), at), nil, 0)
		wantJoin(t, laid(put(t, numbered(entries[0], uint64(at+1))), at), nil, 0)
		wantJoin(t, append(slices.Clone(sectors), laid(put(t, numbered(entries[0], uint64(8+at))), 7+at)...), entries, 7)
	}
	wantJoin(t, append(slices.Clone(sectors), laid(put(t, numbered(entries[0], 8)), 7)...), append(slices.Clone(entries), numbered(entries[0], 8)), 9)
}

// 9.3: a byte that differs in any sector ends the entries ahead of the one to which it belongs.
func TestJoinChangedByte(t *testing.T) {
	entries, sectors := chain(t, taking(2), sized(109), sized(80), sized(162), sized(83))
	for i := range sectors {
		for at := range sectors[i] {
			for _, change := range []byte{1, 2, 3, 4, 8, 64, 128, 255} {
				l := slices.Clone(sectors)
				l[i][at] ^= change
				wantFirst(t, l, entries, i)
			}
		}
	}
}

// 9.3: a sector that is missing, doubled, blank or swapped with its neighbour.
func TestJoinMissing(t *testing.T) {
	entries, sectors := chain(t, taking(2), taking(4), sized(80), sized(163), taking(2))
	for i := range sectors {
		l := slices.Delete(slices.Clone(sectors), i, i+1)
		wantFirst(t, l, entries, i)
		l = slices.Clone(sectors)
		l[i] = api.Sector{}
		wantFirst(t, l, entries, i)
		l = slices.Insert(slices.Clone(sectors), i, sectors[i])
		wantFirst(t, l, entries, i+1)
		if i > 0 {
			l = slices.Clone(sectors)
			l[i-1], l[i] = l[i], l[i-1]
			wantFirst(t, l, entries, i-1)
		}
	}
}

// 9.3: the entry's bytes must bear its number; here only these bytes are wrong, the checksum and the positions are right.
func TestJoinOtherLsn(t *testing.T) {
	entries, sectors := chain(t, taking(2), taking(3), taking(2))
	for i, e := range entries {
		at := int(e.Lsn) - 1
		for _, lsn := range []uint64{0, e.Lsn - 1, e.Lsn + 1, e.Lsn + 2, e.Lsn + 256, e.Lsn + 1<<32, e.Lsn + 1<<63, math.MaxUint64} {
			l := slices.Clone(sectors)
			copy(l[at:], laid(put(t, numbered(e, lsn)), at))
			wantJoin(t, l, entries[:i], at)
		}
	}
}

// 9.3: sectors that are a cut of bytes that are no entry.
func TestJoinNoEntry(t *testing.T) {
	entries, sectors := chain(t, taking(2))
	good := put(t, numbered(taking(3), 3))
	otherKind := slices.Clone(good[:len(good)-4])
	otherKind[0] = 11
	spaced := append(slices.Clone(good[:len(good)-4]), 0)
	var wrong [][]byte
	for _, n := range []int{1, 4, 5, 53, 54, 55, 80, 108, 1000, 7000} {
		wrong = append(wrong, bytesOf(n), make([]byte, n), sealed(bytesOf(n)))
	}
	wrong = append(wrong, sealed(nil), good[:len(good)-1], good[1:], append(slices.Clone(good), 0), sealed(otherKind), sealed(spaced), append(slices.Clone(good), good...))
	for _, b := range wrong {
		wantJoin(t, laid(b, 0), nil, 0)
		wantJoin(t, append(slices.Clone(sectors), laid(b, 2)...), entries, 2)
	}
	wantJoin(t, append(slices.Clone(sectors), laid(good, 2)...), append(slices.Clone(entries), numbered(taking(3), 3)), 5)
}

// sealed returns b followed by its checksum.
func sealed(b []byte) []byte {
	sum := crc32.Checksum(b, crc32.MakeTable(crc32.Castagnoli))
	return append(slices.Clone(b), byte(sum), byte(sum>>8), byte(sum>>16), byte(sum>>24))
}

// cutAs returns the sectors of an entry's bytes in shares of these sizes, which is no Cut but for those of 54 bytes with a rest.
func cutAs(b []byte, at int, sizes ...int) []api.Sector {
	l := make([]api.Sector, len(sizes))
	for i, size := range sizes {
		whole := laid(bytesOf(54*len(sizes)), at)[i]
		copy(l[i][:9], whole[:9])
		l[i][9] = byte(size)
		copy(l[i][10:], b[:size])
		b = b[size:]
	}
	return l
}

// 9.3: each sector but the last one is full, and the last one is not empty: an entry has one cut only.
func TestJoinOtherShares(t *testing.T) {
	for _, behind := range []bool{false, true} {
		var entries []api.Entry
		var sectors []api.Sector
		if behind {
			entries, sectors = chain(t, taking(2), taking(2))
		}
		at := len(sectors)
		e := numbered(sized(108), uint64(at+1))
		b := put(t, e)
		wantJoin(t, append(slices.Clone(sectors), cutAs(b, at, 54, 54)...), append(slices.Clone(entries), e), at+2)
		for _, sizes := range [][]int{{53, 54, 1}, {54, 53, 1}, {54, 54, 0}, {0, 54, 54}, {54, 0, 54}, {36, 36, 36}, {1, 53, 54}, {54, 1, 53}, {54, 54, 0, 0}} {
			wantJoin(t, append(slices.Clone(sectors), cutAs(b, at, sizes...)...), entries, at)
		}
		b = put(t, numbered(sized(80), uint64(at+1)))
		for n := range 54 {
			if n > 25 {
				wantJoin(t, append(slices.Clone(sectors), cutAs(b, at, n, 80-n)...), entries, at)
			}
		}
	}
}

// 9.3: no byte of the number of bytes in a sector leads beyond the sector.
func TestJoinSize(t *testing.T) {
	entries, sectors := chain(t, taking(2), sized(108), sized(109))
	for i := range sectors {
		for size := range 256 {
			l := slices.Clone(sectors)
			if int(l[i][9]) == size {
				continue
			}
			l[i][9] = byte(size)
			wantFirst(t, l, entries, i)
		}
	}
}

// 9.3: the marks of the first and the last sector are right, and no other bit is set.
func TestJoinMarks(t *testing.T) {
	entries, sectors := chain(t, taking(2), sized(162), taking(2))
	for i := range sectors {
		for mark := range 256 {
			l := slices.Clone(sectors)
			if int(l[i][8]) == mark {
				continue
			}
			l[i][8] = byte(mark)
			wantFirst(t, l, entries, i)
		}
	}
}

// 9.3 and R3: Join neither changes its sectors nor reads those behind them; its result does not share their memory.
func TestJoinLeavesArgument(t *testing.T) {
	entries, sectors := chain(t, largest(), taking(3), taking(2))
	all := slices.Clone(sectors)
	got, n := wal.Join(all[:len(all)-1])
	if !slices.Equal(all, sectors) || n != len(all)-2 {
		t.Fatalf("Join changed its argument, or read more of it: %d sectors", n)
	}
	spoil(all)
	if !equal(got, entries[:2]) {
		t.Fatalf("the entries are now %v", got)
	}
	all = slices.Clone(sectors)
	got, _ = wal.Join(all)
	again, _ := wal.Join(all)
	spoilEntries(got)
	if !slices.Equal(all, sectors) || !equal(again, entries) {
		t.Fatal("whoever writes to the entries writes to the sectors, or to other entries")
	}
}

// spoilEntries overwrites all memory of entries, also behind the lengths of their lists.
func spoilEntries(l []api.Entry) {
	for i := range l {
		spoilEntry(l[i])
		l[i] = api.Entry{Kind: 99}
	}
	_ = append(l, api.Entry{Kind: 98})
}

// spoilEntry overwrites the memory of an entry's lists.
func spoilEntry(e api.Entry) {
	pages, active := e.Pages[:cap(e.Pages)], e.Active[:cap(e.Active)]
	for i := range pages {
		pages[i] = api.Image{Page: 250 - i, P: api.Page{99}}
	}
	for i := range active {
		active[i] = 99
	}
}

// joined returns what Join promises, worked out for every length of every entry.
func joined(l []api.Sector) ([]api.Entry, int) {
	var entries []api.Entry
	at := 0
	for n := 1; at+n <= len(l); n++ {
		var b []byte
		for _, s := range l[at : at+n] {
			b = append(b, s[10:10+min(54, int(s[9]))]...)
		}
		e, code := entry.Get(b)
		if code == api.OK && e.Lsn == uint64(at+1) && slices.Equal(l[at:at+n], laid(b, at)) {
			entries = append(entries, e)
			at, n = at+n, 0
		}
	}
	return entries, at
}

// 9.3: sectors that are damaged in many ways, and mixed with those of another log.
func TestJoinByDefinition(t *testing.T) {
	_, ours := chain(t, taking(2), sized(108), taking(3), taking(2), sized(163))
	_, theirs := chain(t, sized(108), taking(2), taking(3), sized(90), sized(150))
	for seed := range uint64(3000) {
		next := noise(seed)
		l := slices.Clone(ours)
		for range 1 + next(3) {
			i := next(len(l))
			switch next(6) {
			case 0:
				l[i][next(64)] ^= byte(1 << next(8))
			case 1:
				copy(l[i:], theirs[i:i+next(len(l)-i)+1])
			case 2:
				l[i] = api.Sector{}
			case 3:
				l[i] = l[next(len(l))]
			case 4:
				l[i][8+next(2)] = byte(next(60))
			case 5:
				l = l[:max(1, i)]
			}
		}
		entries, n := joined(l)
		wantJoin(t, l, entries, n)
	}
}

// 9.4: Open of an empty log, and of zeros: one write of zeros, and a log like that of New.
func TestOpenEmpty(t *testing.T) {
	d := framed(t, make([]api.Sector, 7))
	create(t, d, base, 7)
	for i := range 3 {
		l := open(t, d, base, 7)
		wantLog(t, l, 7, nil, 0, 0)
		wantWrites(t, d, 2+i)
		wantFramed(t, d, 7, nil)
	}
	entries, sectors := chain(t, taking(3))
	l := open(t, d, base, 7)
	wantAppend(t, l, entries[0], 1)
	wantForce(t, l, api.OK)
	wantLog(t, l, 7, entries, 3, 3)
	wantFramed(t, d, 7, sectors)
}

// rubbish returns so many sectors that do not continue a log behind so many sectors, of different sorts.
func rubbish(t *testing.T, behind, n int) [][]api.Sector {
	t.Helper()
	var noisy, full []api.Sector
	for i := range n {
		noisy = append(noisy, sector(i))
		full = append(full, api.Sector(bytes.Repeat([]byte{0xff}, 64)))
	}
	long := laid(put(t, numbered(taking(max(n, 2)), uint64(behind+1))), behind)
	headless := slices.Clone(long[:n])
	headless[0] = api.Sector{}
	endless := slices.Clone(laid(put(t, numbered(taking(n+2), uint64(behind+1))), behind)[:n])
	elsewhere := laid(put(t, numbered(taking(max(n, 2)), uint64(behind+2))), behind+1)[:n]
	lone := make([]api.Sector, n)
	lone[n-1][63] = 1
	return [][]api.Sector{make([]api.Sector, n), noisy, full, headless, endless, elsewhere, lone}
}

// 9.4: the sectors behind the entries are all zeros afterwards, in one write; none behind a full log.
func TestOpenZeros(t *testing.T) {
	entries, sectors := chain(t, taking(2), sized(108), taking(3))
	for count := range len(entries) + 1 {
		_, own := chain(t, entries[:count]...)
		used := len(own)
		for left := range 6 {
			lists := [][]api.Sector{nil}
			if left > 0 {
				lists = rubbish(t, used, left)
			}
			for _, rest := range lists {
				d := framed(t, append(slices.Clone(own), rest...))
				size := used + left
				if size == 0 {
					continue
				}
				l := open(t, d, base, size)
				wantLog(t, l, size, entries[:count], used, used)
				wantFramed(t, d, size, sectors[:used])
				wantWrites(t, d, 1+min(left, 1))
			}
		}
	}
}

// 9.4: what is opened goes on where it ended; entries that were not forced are not there.
func TestOpenGoesOn(t *testing.T) {
	const size = 16
	entries, sectors := chain(t, taking(2), taking(3), taking(4), taking(2))
	d := framed(t, make([]api.Sector, size))
	l := create(t, d, base, size)
	wantAppend(t, l, entries[0], 1)
	wantForce(t, l, api.OK)
	wantAppend(t, l, taking(7), 3)
	l = open(t, d, base, size)
	wantLog(t, l, size, entries[:1], 2, 2)
	wantForce(t, l, api.OK)
	wantWrites(t, d, 3)
	wantAppend(t, l, entries[1], 3)
	wantAppend(t, l, entries[2], 6)
	wantLog(t, l, size, entries[:3], 9, 2)
	wantForce(t, l, api.OK)
	wantLog(t, l, size, entries[:3], 9, 9)
	l = open(t, d, base, size)
	wantLog(t, l, size, entries[:3], 9, 9)
	wantAppend(t, l, entries[3], 10)
	wantNoAppend(t, l, taking(6), api.ErrFull)
	wantForce(t, l, api.OK)
	wantFramed(t, d, size, sectors)
	wantLog(t, open(t, d, base, size), size, entries, 11, 11)
}

// 9.4: Open reads and writes only the sectors of the log: a shorter or longer one, or one that begins elsewhere, sees what lies there.
func TestOpenElsewhere(t *testing.T) {
	entries, sectors := chain(t, taking(2), taking(3), taking(2))
	for size := 1; size <= len(sectors); size++ {
		d := disk(t, append(append([]api.Sector{sector(1)}, sectors...), sector(2)))
		count, used := complete(t, entries, size)
		wantLog(t, open(t, d, 1, size), size, entries[:count], used, used)
		want := append([]api.Sector{sector(1)}, sectors[:used]...)
		want = append(want, make([]api.Sector, size-used)...)
		want = append(append(want, sectors[size:]...), sector(2))
		if got := d.Image(); !slices.Equal(got, want) {
			t.Fatalf("size %d: the disk is %v, want %v", size, got, want)
		}
	}
	d := disk(t, sectors)
	wantLog(t, open(t, d, 2, 5), 5, nil, 0, 0)
	if got := d.Image(); !slices.Equal(got, append(slices.Clone(sectors[:2]), make([]api.Sector, 5)...)) {
		t.Fatalf("the disk is %v", got)
	}
}

// 9.4: the code of reading the sectors, also where nothing would be written; the disk is not changed.
func TestOpenDown(t *testing.T) {
	entries, sectors := chain(t, taking(2), taking(3))
	for _, size := range []int{5, 9} {
		own := slices.Clone(sectors)
		for range size - 5 {
			own = append(own, sector(7))
		}
		d := torn(t, framed(t, own))
		wantNoOpen(t, d, base, size, api.ErrDown)
		wantNoOpen(t, d, -1, size, api.ErrRange)
		wantFramed(t, d, size, own)
		wantWrites(t, d, 1)
		d.Up()
		wantLog(t, open(t, d, base, size), size, entries, 5, 5)
	}
}

// 9.4: no power fails in a write that is not made: Open of a full log.
func TestOpenFullAtFailure(t *testing.T) {
	entries, sectors := chain(t, taking(2), taking(3))
	d := framed(t, sectors)
	d.Fuse(0, nil)
	wantLog(t, open(t, d, base, 5), 5, entries, 5, 5)
	if d.Down() {
		t.Fatal("a write was made")
	}
}

// 9.4: All and Find have entries that are not durable, also behind a Force that failed.
func TestAllAndFind(t *testing.T) {
	entries, _ := chain(t, taking(2), taking(3), taking(2))
	d := framed(t, make([]api.Sector, 9))
	l := create(t, d, base, 9)
	wantLog(t, l, 9, nil, 0, 0)
	for i, e := range entries {
		wantAppend(t, l, e, e.Lsn)
		wantLog(t, l, 9, entries[:i+1], l.Used(), 0)
	}
	torn(t, d)
	wantForce(t, l, api.ErrDown)
	wantLog(t, l, 9, entries, 7, 0)
}

// 9.2, 9.4 and R3: nobody's writing to what was passed in or returned is noticed by the log.
func TestMemoryOfEntries(t *testing.T) {
	entries, sectors := chain(t, largest(), taking(3))
	size := len(sectors)
	d := framed(t, make([]api.Sector, size))
	l := create(t, d, base, size)
	for _, e := range entries {
		given := copyOf(e)
		wantAppend(t, l, given, e.Lsn)
		if !equal([]api.Entry{given}, []api.Entry{e}) {
			t.Fatalf("Append changed its argument to %v", given)
		}
		spoilEntry(given)
		wantLog(t, l, size, l.All(), l.Used(), 0)
	}
	for _, l := range []*wal.Log{l, reopened(t, l, d, size)} {
		wantLog(t, l, size, entries, size, size)
		before, again := l.All(), l.All()
		found, _ := l.Find(1)
		spoilEntries(before)
		spoilEntry(found)
		if !equal(again, entries) {
			t.Fatalf("what All returned is now %v", again)
		}
		other, _ := l.Find(1)
		spoilEntries(l.All())
		if !equal([]api.Entry{other}, entries[:1]) {
			t.Fatalf("what Find returned is now %v", other)
		}
		wantLog(t, l, size, entries, size, size)
	}
	wantFramed(t, d, size, sectors)
}

// reopened forces a log and opens it again.
func reopened(t *testing.T, l *wal.Log, d *platter.Platter, size int) *wal.Log {
	t.Helper()
	wantForce(t, l, api.OK)
	return open(t, d, base, size)
}

// 9.2 and R3: Append does not read memory behind the lengths of an entry's lists, nor write to it.
func TestMemoryBehindLists(t *testing.T) {
	pages, active := []api.Image{{Page: 1}, {Page: 2}, {Page: 3}}, []uint64{1, 2, 3}
	e := api.Entry{Kind: api.LogCheck, Lsn: 1, Pages: pages[:1], Active: active[:2]}
	d := fresh(t, 9)
	l := create(t, d, 0, 9)
	wantAppend(t, l, e, 1)
	all := l.All()
	all[0].Pages = append(all[0].Pages, api.Image{Page: 77})
	all[0].Active = append(all[0].Active, 77)
	wantLog(t, l, 9, []api.Entry{e}, 2, 0)
	if !slices.Equal(pages, []api.Image{{Page: 1}, {Page: 2}, {Page: 3}}) || !slices.Equal(active, []uint64{1, 2, 3}) {
		t.Fatalf("the lists are now %v, %v", pages, active)
	}
}

// 9.4: what All and Find returned stays as it is, whatever is appended later.
func TestResultsStay(t *testing.T) {
	entries, _ := chain(t, taking(2), taking(3), taking(2))
	d := fresh(t, 9)
	l := create(t, d, 0, 9)
	wantAppend(t, l, entries[0], 1)
	all := l.All()
	found, _ := l.Find(1)
	wantAppend(t, l, entries[1], 3)
	wantForce(t, l, api.OK)
	_ = append(all, api.Entry{Kind: 5})
	wantAppend(t, l, entries[2], 6)
	if !equal(all, entries[:1]) || !equal([]api.Entry{found}, entries[:1]) {
		t.Fatalf("All = %v, Find = %v", all, found)
	}
	wantLog(t, l, 9, entries, 7, 5)
}

// subset returns which of n sectors are kept: the bits of a number.
func subset(bits, n int) []bool {
	keep := make([]bool, n)
	for i := range keep {
		keep[i] = bits>>i&1 == 1
	}
	return keep
}

// kept returns the sectors of which those are new that are kept, and the others old.
func kept(keep []bool, old, fresh []api.Sector) []api.Sector {
	l := slices.Clone(old)
	for i, k := range keep {
		if k {
			l[i] = fresh[i]
		}
	}
	return l
}

// 9.5: the power fails in Force; every subset of the sectors under way is kept, and what Open finds then.
func TestFailureInForce(t *testing.T) {
	const size, durable, under = 12, 2, 7
	entries, sectors := chain(t, taking(2), taking(2), taking(3), taking(2))
	for bits := range 1 << under {
		keep := subset(bits, under)
		d := framed(t, make([]api.Sector, size))
		l := create(t, d, base, size)
		wantAppend(t, l, entries[0], 1)
		wantForce(t, l, api.OK)
		for _, e := range entries[1:] {
			wantAppend(t, l, e, e.Lsn)
		}
		d.Fuse(0, keep)
		wantForce(t, l, api.ErrDown)
		wantLog(t, l, size, entries, 9, durable)
		wantWrites(t, d, 2)
		written := kept(keep, make([]api.Sector, under), sectors[durable:])
		wantFramed(t, d, size, append(slices.Clone(sectors[:durable]), written...))
		d.Up()
		prefix := durable
		for prefix < durable+under && keep[prefix-durable] {
			prefix++
		}
		count, used := complete(t, entries, prefix)
		twin := d.Twin()
		wantLog(t, open(t, d, base, size), size, entries[:count], used, used)
		wantFramed(t, d, size, sectors[:used])
		wantWrites(t, d, 3)
		wantForce(t, create(t, twin, base, size), api.OK)
		wantFramed(t, twin, size, append(slices.Clone(sectors[:durable]), written...))
	}
}

// 9.5: the power fails in Force and then in Open; every subset of the sectors that Open writes is kept.
func TestFailureInOpen(t *testing.T) {
	entries, sectors := chain(t, taking(2), taking(3), taking(3))
	const used, left = 5, 6
	lists := rubbish(t, used, left)
	lists = append(lists, []api.Sector{sectors[5], {}, sectors[7], sector(1), {}, sector(2)}, []api.Sector{sectors[5], sectors[6], sector(1), sectors[5], sectors[6], sectors[7]})
	for _, rest := range lists {
		for bits := range 1 << left {
			keep := subset(bits, left)
			d := framed(t, append(slices.Clone(sectors[:used]), rest...))
			d.Fuse(0, keep)
			wantNoOpen(t, d, base, used+left, api.ErrDown)
			wantNoOpen(t, d, base, used+left, api.ErrDown)
			after := kept(keep, rest, make([]api.Sector, left))
			wantFramed(t, d, used+left, append(slices.Clone(sectors[:used]), after...))
			wantWrites(t, d, 1)
			d.Up()
			l := open(t, d, base, used+left)
			wantLog(t, l, used+left, entries[:2], used, used)
			wantFramed(t, d, used+left, sectors[:used])
			wantWrites(t, d, 2)
			wantAppend(t, l, entries[2], 6)
			wantForce(t, l, api.OK)
			wantFramed(t, d, used+left, sectors)
		}
	}
}

// 9.5: opening again changes nothing but the number of writes.
func TestOpenAgain(t *testing.T) {
	entries, sectors := chain(t, taking(2), taking(3))
	d := framed(t, append(slices.Clone(sectors), sector(8), sectors[0], sector(9)))
	for i := range 3 {
		wantLog(t, open(t, d, base, 8), 8, entries, 5, 5)
		wantFramed(t, d, 8, sectors)
		wantWrites(t, d, 2+i)
	}
}

// model is a log as the chapter describes it, with all that lies in its sectors.
type model struct {
	size    int
	own     []api.Sector
	writes  int
	down    bool
	entries []api.Entry
	waiting []api.Sector
	durable int
}

// used returns how many sectors the entries take.
func (m *model) used() int {
	return m.durable + len(m.waiting)
}

// write is a write of l behind the durable sectors, in which the power fails if keep is not nil.
func (m *model) write(l []api.Sector, keep []bool) api.Code {
	switch {
	case m.down:
		return api.ErrDown
	case keep != nil:
		m.down = true
		for i, s := range l {
			if i < len(keep) && keep[i] {
				m.own[m.durable+i] = s
			}
		}
		return api.ErrDown
	}
	copy(m.own[m.durable:], l)
	m.writes++
	return api.OK
}

// force is Force.
func (m *model) force(keep []bool) api.Code {
	if len(m.waiting) == 0 {
		return api.OK
	}
	code := m.write(m.waiting, keep)
	if code == api.OK {
		m.durable, m.waiting = m.used(), nil
	}
	return code
}

// open is Open.
func (m *model) open(keep []bool) api.Code {
	if m.down {
		return api.ErrDown
	}
	m.entries, m.durable = joined(m.own)
	m.waiting = nil
	if m.durable == m.size {
		return api.OK
	}
	return m.write(make([]api.Sector, m.size-m.durable), keep)
}

// append is Append; false: the entry does not fit.
func (m *model) append(t *testing.T, e api.Entry) (uint64, bool) {
	t.Helper()
	lsn := uint64(m.used() + 1)
	e = numbered(copyOf(e), lsn)
	l := laid(put(t, e), m.used())
	if len(l) > m.size-m.used() {
		return 0, false
	}
	m.entries = append(m.entries, e)
	m.waiting = append(m.waiting, l...)
	return lsn, true
}

// 9.2 to 9.5 and P6: many sequences of calls and power failures, held against a model.
func TestByModel(t *testing.T) {
	for seed := range uint64(400) {
		next := noise(seed)
		m := &model{size: 1 + next(24)}
		m.own = make([]api.Sector, m.size)
		d := framed(t, m.own)
		m.writes = 1
		l := create(t, d, base, m.size)
		for range 40 {
			l = step(t, next, m, d, l)
			wantLog(t, l, m.size, m.entries, m.used(), m.durable)
			wantFramed(t, d, m.size, m.own)
			wantWrites(t, d, m.writes)
		}
	}
}

// step makes a call on the log and on the model and returns the log, which is another one behind Open.
func step(t *testing.T, next func(int) int, m *model, d *platter.Platter, l *wal.Log) *wal.Log {
	t.Helper()
	var keep []bool
	if next(4) == 0 {
		keep = subset(next(1<<12), 12)
	}
	switch next(6) {
	case 0, 1, 2:
		e := taking(2 + next(4))
		if lsn, ok := m.append(t, e); ok {
			wantAppend(t, l, e, lsn)
		} else {
			wantNoAppend(t, l, e, api.ErrFull)
		}
	case 3, 4:
		fuse(d, keep)
		wantForce(t, l, m.force(keep))
		raise(next, m, d)
	case 5:
		fuse(d, keep)
		for m.open(keep) != api.OK {
			wantNoOpen(t, d, base, m.size, api.ErrDown)
			wantFramed(t, d, m.size, m.own)
			d.Up()
			m.down, keep = false, nil
		}
		l = open(t, d, base, m.size)
		raise(func(int) int { return 0 }, m, d)
	}
	return l
}

// fuse has the power fail in the next write if keep is not nil.
func fuse(d *platter.Platter, keep []bool) {
	if keep != nil && !d.Down() {
		d.Fuse(0, keep)
	}
}

// raise cancels what is scheduled, and most often restores the power.
func raise(next func(int) int, m *model, d *platter.Platter) {
	d.Fuse(-1, nil)
	if next(3) > 0 || !m.down {
		d.Up()
		m.down = false
	}
}
