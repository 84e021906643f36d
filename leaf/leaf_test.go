package leaf_test

import (
	"math"
	"slices"
	"testing"

	"counterpane/api"
	"counterpane/leaf"
	"counterpane/platter"
)

// page returns a page whose bytes all differ from those of the pages with other numbers below 256.
func page(n int) api.Page {
	var p api.Page
	for i := range p {
		p[i] = byte(n + 5*i)
	}
	return p
}

// full returns a page whose bytes are all b.
func full(b byte) api.Page {
	var p api.Page
	for i := range p {
		p[i] = b
	}
	return p
}

// sector returns a sector whose bytes are no page's.
func sector(n int) api.Sector {
	var s api.Sector
	for i := range s {
		s[i] = byte(n + 11*i)
	}
	return s
}

// numbers returns the numbers at the limits, and some whose bytes all differ.
func numbers() []uint64 {
	l := []uint64{0, 1, 255, 256, math.MaxUint32, 1 << 32, math.MaxInt64, 1 << 63, 0x0102030405060708, 0xf1e2d3c4b5a69788, math.MaxUint64 - 1, math.MaxUint64}
	for bit := range 64 {
		l = append(l, 1<<bit)
	}
	return l
}

// pages returns pages of all kinds: equal bytes, different ones, and a single one that is set.
func pages() []api.Page {
	l := []api.Page{{}, full(0xff), full(1), page(1), page(200)}
	for _, i := range []int{0, 1, 55, 56, 111, 112, 167, 168, 222, 223} {
		var p api.Page
		p[i] = 0x80
		l = append(l, p)
	}
	return l
}

// laid returns the sectors of a page, put together byte by byte.
func laid(p api.Page, lsn uint64) []api.Sector {
	l := make([]api.Sector, 4)
	for i, b := range p {
		l[i/56][i%56] = b
	}
	for i := range l {
		for j := range 8 {
			l[i][63-j] = byte(lsn >> (8 * j))
		}
	}
	return l
}

func wantGet(t *testing.T, l []api.Sector, p api.Page, lsn uint64) {
	t.Helper()
	if gotPage, gotLsn, ok := leaf.Get(l); gotPage != p || gotLsn != lsn || !ok {
		t.Fatalf("Get(%v) = %v, %d, %v, want %v, %d", l, gotPage, gotLsn, ok, p, lsn)
	}
}

func wantTorn(t *testing.T, l []api.Sector) {
	t.Helper()
	if p, lsn, ok := leaf.Get(l); p != (api.Page{}) || lsn != 0 || ok {
		t.Fatalf("Get(%v) = %v, %d, %v, want a torn page", l, p, lsn, ok)
	}
}

func wantWrite(t *testing.T, d *platter.Platter, base, n int, p api.Page, lsn uint64, want api.Code) {
	t.Helper()
	if got := leaf.Write(d, base, n, p, lsn); got != want {
		t.Fatalf("Write(%d, %d) = %d, want %d", base, n, got, want)
	}
}

func wantRead(t *testing.T, d *platter.Platter, base, n int, p api.Page, lsn uint64) {
	t.Helper()
	if gotPage, gotLsn, ok, code := leaf.Read(d, base, n); gotPage != p || gotLsn != lsn || !ok || code != api.OK {
		t.Fatalf("Read(%d, %d) = %v, %d, %v, %d, want %v, %d", base, n, gotPage, gotLsn, ok, code, p, lsn)
	}
}

// wantNoRead wants no page beside a code; with the code OK the page is torn.
func wantNoRead(t *testing.T, d *platter.Platter, base, n int, want api.Code) {
	t.Helper()
	if p, lsn, ok, code := leaf.Read(d, base, n); p != (api.Page{}) || lsn != 0 || ok || code != want {
		t.Fatalf("Read(%d, %d) = %v, %d, %v, %d, want the code %d alone", base, n, p, lsn, ok, code, want)
	}
}

func wantDisk(t *testing.T, d *platter.Platter, image []api.Sector, writes int, down bool) {
	t.Helper()
	if got := d.Image(); !slices.Equal(got, image) {
		t.Fatalf("the disk is %v, want %v", got, image)
	}
	if d.Writes() != writes || d.Down() != down {
		t.Fatalf("Writes, Down = %d, %v, want %d, %v", d.Writes(), d.Down(), writes, down)
	}
}

// filled returns a disk of n sectors behind a single write, and its sectors.
func filled(t *testing.T, n int) (*platter.Platter, []api.Sector) {
	t.Helper()
	d, code := platter.New(n)
	if code != api.OK {
		t.Fatal(code)
	}
	var l []api.Sector
	for i := range n {
		l = append(l, sector(i))
	}
	if code := d.Write(0, l); code != api.OK {
		t.Fatal(code)
	}
	return d, l
}

// failed returns a disk of n sectors whose power has failed behind a single completed write, and its sectors.
func failed(t *testing.T, n int) (*platter.Platter, []api.Sector) {
	t.Helper()
	d, image := filled(t, n)
	d.Fuse(0, nil)
	if code := d.Write(0, image[:1]); code != api.ErrDown {
		t.Fatal(code)
	}
	return d, image
}

// 6.1: 56 bytes of the page, and eight bytes of the number behind them, in each of four sectors.
func TestPut(t *testing.T) {
	for _, p := range pages() {
		for _, lsn := range numbers() {
			if got, want := leaf.Put(p, lsn), laid(p, lsn); !slices.Equal(got, want) {
				t.Fatalf("Put(%v, %d) = %v, want %v", p, lsn, got, want)
			}
		}
	}
}

// 6.1: every byte of the page has one place, and no other byte changes.
func TestPutEveryByte(t *testing.T) {
	for i := range api.PageSize {
		var p api.Page
		p[i] = 0xa5
		want := make([]api.Sector, 4)
		want[i/56][i%56] = 0xa5
		if got := leaf.Put(p, 0); !slices.Equal(got, want) {
			t.Fatalf("byte %d: Put = %v, want %v", i, got, want)
		}
	}
}

// 6.1: every byte of the number stands in each sector, the highest one first.
func TestPutNumber(t *testing.T) {
	s := api.Sector{56: 1, 57: 2, 58: 3, 59: 4, 60: 5, 61: 6, 62: 7, 63: 8}
	if got := leaf.Put(api.Page{}, 0x0102030405060708); !slices.Equal(got, []api.Sector{s, s, s, s}) {
		t.Errorf("Put = %v", got)
	}
	for j := range 8 {
		var s api.Sector
		s[63-j] = 0xa5
		if got := leaf.Put(api.Page{}, 0xa5<<(8*j)); !slices.Equal(got, []api.Sector{s, s, s, s}) {
			t.Errorf("byte %d of the number: Put = %v", j, got)
		}
	}
}

// 6.1, 6.3 and P6: an encoded page is decoded as the original one.
func TestRoundTrip(t *testing.T) {
	for _, p := range pages() {
		for _, lsn := range numbers() {
			wantGet(t, leaf.Put(p, lsn), p, lsn)
			wantGet(t, laid(p, lsn), p, lsn)
		}
	}
}

// 6.1: zero sectors are the zero page with the number 0.
func TestZeroSectors(t *testing.T) {
	wantGet(t, make([]api.Sector, 4), api.Page{}, 0)
	if got := leaf.Put(api.Page{}, 0); !slices.Equal(got, make([]api.Sector, 4)) {
		t.Errorf("Put of the zero page = %v", got)
	}
}

// 6.1: only four sectors are a page.
func TestGetOtherLengths(t *testing.T) {
	wantTorn(t, nil)
	wantTorn(t, []api.Sector{})
	for _, l := range [][]api.Sector{leaf.Put(page(1), 7), make([]api.Sector, 4)} {
		for n := range 4 {
			wantTorn(t, l[:n])
			wantTorn(t, l[4-n:])
		}
		for n := 1; n <= 4; n++ {
			wantTorn(t, append(slices.Clone(l), l[:n]...))
		}
		wantTorn(t, slices.Repeat(l, 100))
	}
}

// 6.1 and R3: sectors behind the length do not count.
func TestGetIgnoresWhatLiesBehind(t *testing.T) {
	l := append(leaf.Put(page(1), 7), leaf.Put(page(2), 8)...)
	wantGet(t, l[:4], page(1), 7)
	wantGet(t, l[4:], page(2), 8)
	for n := range 4 {
		wantTorn(t, l[:n])
	}
}

// 6.1: a number that differs in a single bit of a single sector.
func TestGetOneNumberDiffers(t *testing.T) {
	for _, lsn := range []uint64{0, 7, 0x0102030405060708, math.MaxUint64} {
		for i := range 4 {
			for j := 56; j < 64; j++ {
				for bit := range 8 {
					l := leaf.Put(page(1), lsn)
					l[i][j] ^= 1 << bit
					wantTorn(t, l)
				}
			}
		}
	}
}

// 6.1: numbers of which some sectors have one and the others another.
func TestGetMixedNumbers(t *testing.T) {
	old, recent := leaf.Put(page(1), 7), leaf.Put(page(2), 8)
	for subset := range 16 {
		l := slices.Clone(old)
		for i := range l {
			if subset>>i&1 == 1 {
				l[i] = recent[i]
			}
		}
		switch subset {
		case 0:
			wantGet(t, l, page(1), 7)
		case 15:
			wantGet(t, l, page(2), 8)
		default:
			wantTorn(t, l)
		}
	}
}

// 6.1: a sum or a combination of the numbers is not enough.
func TestGetNumbersThatCancelOut(t *testing.T) {
	for _, n := range [][4]uint64{{1, 2, 2, 1}, {1, 2, 1, 2}, {1, 1, 2, 2}, {1, 2, 3, 4}, {0, 1, math.MaxUint64, 0}, {5, 6, 4, 5}, {1, 2, 3, 1}} {
		l := make([]api.Sector, 4)
		for i := range l {
			l[i] = leaf.Put(page(1), n[i])[i]
		}
		wantTorn(t, l)
	}
}

// 6.1: every byte of the page is read, and the number does not depend on it.
func TestGetChangedBytes(t *testing.T) {
	for i := range api.PageSize {
		l, p := leaf.Put(page(1), 7), page(1)
		l[i/56][i%56] ^= 0xff
		p[i] ^= 0xff
		wantGet(t, l, p, 7)
	}
}

// 6.1 and P6: sectors are decoded exactly if they are those of some page with some number.
func TestOneEncoding(t *testing.T) {
	seed := uint64(1)
	random := func(n int) int {
		seed = seed*6364136223846793005 + 1442695040888963407
		return int(seed>>33) % n
	}
	for range 20000 {
		l := leaf.Put(page(random(256)), uint64(random(3)))
		for range random(4) {
			l[random(4)][random(64)] = byte(random(3))
		}
		if random(4) == 0 {
			l[random(4)] = l[random(4)]
		}
		p, lsn, ok := leaf.Get(l)
		same := l[0][63] == l[1][63] && l[0][63] == l[2][63] && l[0][63] == l[3][63]
		for j := 56; j < 63; j++ {
			same = same && l[0][j] == l[1][j] && l[0][j] == l[2][j] && l[0][j] == l[3][j]
		}
		if ok != same {
			t.Fatalf("Get(%v) tells %v", l, ok)
		}
		if ok && !slices.Equal(laid(p, lsn), l) || !ok && (p != api.Page{} || lsn != 0) {
			t.Fatalf("Get(%v) = %v, %d, %v", l, p, lsn, ok)
		}
	}
}

// 6.1 and R3: the sectors that Put returns are the caller's, and those of Get are not changed.
func TestPutAndGetMemory(t *testing.T) {
	p := page(1)
	first := leaf.Put(p, 7)
	second := leaf.Put(p, 7)
	for i := range first {
		first[i] = sector(i)
	}
	_ = append(first, sector(9))
	if p != page(1) || !slices.Equal(second, laid(page(1), 7)) || !slices.Equal(leaf.Put(p, 7), second) {
		t.Error("the results of Put share memory")
	}
	all := append(leaf.Put(page(2), 8), sector(1), sector(2))
	kept := slices.Clone(all)
	got, lsn, ok := leaf.Get(all[:4])
	if !slices.Equal(all, kept) {
		t.Error("Get changed its sectors")
	}
	for i := range all {
		all[i] = sector(i)
	}
	if got != page(2) || lsn != 8 || !ok {
		t.Error("the result of Get has changed with its sectors")
	}
	torn := append(leaf.Put(page(2), 8)[:2], leaf.Put(page(2), 9)[2:]...)
	kept = slices.Clone(torn)
	wantTorn(t, torn)
	if !slices.Equal(torn, kept) {
		t.Error("Get changed the sectors of a torn page")
	}
}

// 6.2: base + 4n.
func TestWhere(t *testing.T) {
	for _, c := range [][3]int{{0, 0, 0}, {0, 1, 4}, {1, 0, 1}, {3, 2, 11}, {100, 25, 200}, {16380, 1, 16384}, {math.MaxInt, 0, math.MaxInt}, {math.MaxInt - 4, 1, math.MaxInt}, {-1, 0, -1}, {0, -1, -4}, {9, -2, 1}, {-7, 2, 1}, {math.MinInt, 0, math.MinInt}} {
		if got := leaf.Where(c[0], c[1]); got != c[2] {
			t.Errorf("Where(%d, %d) = %d, want %d", c[0], c[1], got, c[2])
		}
	}
	for base := range 20 {
		for n := range 20 {
			want := base
			for range n {
				want += 4
			}
			if got := leaf.Where(base, n); got != want {
				t.Errorf("Where(%d, %d) = %d, want %d", base, n, got, want)
			}
		}
	}
}

// 6.2 and P0: Where also returns where the sum does not fit into an int.
func TestWhereTooLarge(t *testing.T) {
	for _, base := range places(8) {
		for _, n := range places(8) {
			want := base + n + n + n + n
			if got := leaf.Where(base, n); got != want {
				t.Errorf("Where(%d, %d) = %d, want %d", base, n, got, want)
			}
		}
	}
}

// 6.2: without a disk there is no page.
func TestNoDisk(t *testing.T) {
	for _, base := range places(8) {
		for _, n := range places(8) {
			wantWrite(t, nil, base, n, page(1), 7, api.ErrRange)
			wantNoRead(t, nil, base, n, api.ErrRange)
		}
	}
}

// places returns bases and pages: those of the disk, its neighbours, and some far outside, among them such with which base + 4n is too large for an int and looks like a place on the disk.
func places(size int) []int {
	l := []int{math.MinInt, math.MinInt + 1, math.MinInt / 2, math.MinInt / 4, -1 << 32, -size, -4, -2, -1}
	for i := range size + 3 {
		l = append(l, i)
	}
	l = append(l, 1<<30, 1<<32, 1<<32+1)
	for _, most := range []int{math.MaxInt / 4, math.MaxInt / 2, math.MaxInt - 4} {
		for i := -4; i <= 4; i++ {
			l = append(l, most+i)
		}
	}
	return l
}

// exists reports whether a disk has all four sectors of a page, by going there page by page.
func exists(size, base, n int) bool {
	if base < 0 || n < 0 || n > size || base > size {
		return false
	}
	at := base
	for range n {
		at += 4
	}
	return at+3 < size
}

// 6.2: all bases and pages at and beyond both ends of the disk.
func TestWriteEverywhere(t *testing.T) {
	for _, size := range []int{1, 3, 4, 5, 7, 8, 9, 13} {
		for _, base := range places(size) {
			for _, n := range places(size) {
				d, image := filled(t, size)
				if exists(size, base, n) {
					wantWrite(t, d, base, n, page(1), 7, api.OK)
					copy(image[base+4*n:], laid(page(1), 7))
					wantDisk(t, d, image, 2, false)
				} else {
					wantWrite(t, d, base, n, page(1), 7, api.ErrRange)
					wantDisk(t, d, image, 1, false)
				}
			}
		}
	}
}

// 6.2: the same for Read, which changes nothing.
func TestReadEverywhere(t *testing.T) {
	for _, size := range []int{1, 3, 4, 5, 7, 8, 9, 13} {
		for _, base := range places(size) {
			for _, n := range places(size) {
				d, image := filled(t, size)
				wantNoRead(t, d, base, n, map[bool]api.Code{true: api.OK, false: api.ErrRange}[exists(size, base, n)])
				wantDisk(t, d, image, 1, false)
				if exists(size, base, n) {
					d.Write(base+4*n, laid(page(3), 9))
					wantRead(t, d, base, n, page(3), 9)
				}
			}
		}
	}
}

// 6.2: pages on a fresh disk, and all of their numbers.
func TestWriteAndRead(t *testing.T) {
	d, _ := platter.New(11)
	wantRead(t, d, 0, 0, api.Page{}, 0)
	for _, p := range pages() {
		for _, lsn := range numbers() {
			wantWrite(t, d, 3, 1, p, lsn, api.OK)
			wantRead(t, d, 3, 1, p, lsn)
			wantRead(t, d, 7, 0, p, lsn)
			wantRead(t, d, 3, 0, api.Page{}, 0)
		}
	}
}

// 6.2: the last page of the largest disk, and the one behind it.
func TestLargestDisk(t *testing.T) {
	d, _ := platter.New(platter.MaxSectors)
	wantWrite(t, d, 0, 4095, page(1), 7, api.OK)
	wantRead(t, d, 0, 4095, page(1), 7)
	wantRead(t, d, 16380, 0, page(1), 7)
	wantWrite(t, d, 0, 4096, page(2), 8, api.ErrRange)
	wantNoRead(t, d, 0, 4096, api.ErrRange)
	for base := 1; base <= 4; base++ {
		wantWrite(t, d, base, 4095, page(2), 8, api.ErrRange)
		wantNoRead(t, d, base, 4095, api.ErrRange)
	}
	wantWrite(t, d, 1, 4094, page(2), 8, api.OK)
	wantRead(t, d, 1, 4094, page(2), 8)
	wantNoRead(t, d, 0, 4095, api.OK)
	wantRead(t, d, 0, 4093, api.Page{}, 0)
}

// 6.2 and R6: what does not exist is reported first, also where the power has failed.
func TestRangeAheadOfDown(t *testing.T) {
	const size = 9
	d, image := failed(t, size)
	for _, base := range places(size) {
		for _, n := range places(size) {
			want := api.ErrRange
			if exists(size, base, n) {
				want = api.ErrDown
			}
			wantWrite(t, d, base, n, page(1), 7, want)
			wantNoRead(t, d, base, n, want)
		}
	}
	wantDisk(t, d, image, 1, true)
}

// 6.2: no page beside the code, also where a page could be read with the power on.
func TestReadWhileDown(t *testing.T) {
	d, _ := platter.New(8)
	wantWrite(t, d, 0, 1, page(1), 7, api.OK)
	d.Fuse(0, nil)
	wantRead(t, d, 0, 1, page(1), 7)
	wantWrite(t, d, 0, 0, page(2), 8, api.ErrDown)
	wantNoRead(t, d, 0, 1, api.ErrDown)
	wantNoRead(t, d, 0, 0, api.ErrDown)
	wantNoRead(t, d, 0, 2, api.ErrRange)
	d.Up()
	wantRead(t, d, 0, 1, page(1), 7)
	wantRead(t, d, 0, 0, api.Page{}, 0)
}

// 6.2: a page is written at once, and a write that is rejected is none.
func TestWriteIsOneWrite(t *testing.T) {
	d, _ := platter.New(12)
	d.Fuse(3, []bool{true, true, true, true})
	for n := range 3 {
		wantWrite(t, d, 0, 3, page(9), 9, api.ErrRange)
		wantWrite(t, d, 0, -1, page(9), 9, api.ErrRange)
		wantWrite(t, d, 0, n, page(n), 7, api.OK)
		wantRead(t, d, 0, n, page(n), 7)
		if d.Writes() != n+1 || d.Down() {
			t.Fatalf("Writes, Down = %d, %v behind %d pages", d.Writes(), d.Down(), n+1)
		}
	}
	wantWrite(t, d, 0, 1, page(9), 9, api.ErrDown)
	d.Up()
	wantRead(t, d, 0, 1, page(9), 9)
}

// 6.2: the chapter's example.
func TestTwoSectorsKept(t *testing.T) {
	d, _ := platter.New(8)
	wantWrite(t, d, 0, 1, page(1), 5, api.OK)
	d.Fuse(0, []bool{true, false, false, true})
	wantWrite(t, d, 0, 1, page(2), 6, api.ErrDown)
	d.Up()
	wantNoRead(t, d, 0, 1, api.OK)
	wantWrite(t, d, 0, 1, page(2), 7, api.OK)
	wantRead(t, d, 0, 1, page(2), 7)
}

// written returns a disk of three pages from sector 2 on, with the numbers 11 to 13.
func written(t *testing.T) *platter.Platter {
	t.Helper()
	d, _ := filled(t, 17)
	for n := range 3 {
		wantWrite(t, d, 2, n, page(n+1), uint64(n+11), api.OK)
	}
	return d
}

// 6.2 and 6.3: every subset of the sectors of a page is kept; the old page, the new one, or a torn one is there, and the pages beside it are untouched.
func TestEverySubsetKept(t *testing.T) {
	for at := range 3 {
		for subset := range 16 {
			d := written(t)
			image := d.Image()
			var keep []bool
			for i := range 4 {
				keep = append(keep, subset>>i&1 == 1)
				if keep[i] {
					image[2+4*at+i] = laid(page(9), 19)[i]
				}
			}
			d.Fuse(0, keep)
			wantWrite(t, d, 2, at, page(9), 19, api.ErrDown)
			wantDisk(t, d, image, 4, true)
			d.Up()
			for n := range 3 {
				switch {
				case n != at || subset == 0:
					wantRead(t, d, 2, n, page(n+1), uint64(n+11))
				case subset == 15:
					wantRead(t, d, 2, n, page(9), 19)
				default:
					wantNoRead(t, d, 2, n, api.OK)
				}
			}
			wantWrite(t, d, 2, at, page(4), 20, api.OK)
			wantRead(t, d, 2, at, page(4), 20)
		}
	}
}

// 6.1 and 6.3: with equal numbers the sectors are those of a page, so that nothing is detected; numbers that differ in one bit suffice.
func TestSubsetsByNumbers(t *testing.T) {
	for subset := 1; subset < 15; subset++ {
		var keep []bool
		mixed := page(1)
		for i := range 4 {
			keep = append(keep, subset>>i&1 == 1)
			if recent := page(2); keep[i] {
				copy(mixed[56*i:56*i+56], recent[56*i:])
			}
		}
		for bit := range 65 {
			d, _ := platter.New(4)
			old := uint64(0x0102030405060708)
			recent := old ^ 1<<bit // the same number if bit is 64
			wantWrite(t, d, 0, 0, page(1), old, api.OK)
			d.Fuse(0, keep)
			wantWrite(t, d, 0, 0, page(2), recent, api.ErrDown)
			d.Up()
			if old == recent {
				wantRead(t, d, 0, 0, mixed, old)
			} else {
				wantNoRead(t, d, 0, 0, api.OK)
			}
		}
	}
}

// 6.2 and 6.3: the first write of a page to a fresh disk, torn in every way.
func TestTornOnFreshDisk(t *testing.T) {
	for subset := range 16 {
		d, _ := platter.New(4)
		d.Fuse(0, []bool{subset&1 > 0, subset&2 > 0, subset&4 > 0, subset&8 > 0})
		wantWrite(t, d, 0, 0, page(1), 1, api.ErrDown)
		d.Up()
		switch subset {
		case 0:
			wantRead(t, d, 0, 0, api.Page{}, 0)
		case 15:
			wantRead(t, d, 0, 0, page(1), 1)
		default:
			wantNoRead(t, d, 0, 0, api.OK)
		}
	}
}

// 6.2: pages that begin between others are what their sectors are.
func TestOverlappingPages(t *testing.T) {
	d, _ := platter.New(12)
	wantWrite(t, d, 0, 0, page(1), 7, api.OK)
	wantWrite(t, d, 0, 1, page(2), 8, api.OK)
	for base := 1; base < 4; base++ {
		wantNoRead(t, d, base, 0, api.OK)
	}
	wantWrite(t, d, 2, 0, page(3), 9, api.OK)
	wantRead(t, d, 2, 0, page(3), 9)
	wantNoRead(t, d, 0, 0, api.OK)
	wantNoRead(t, d, 0, 1, api.OK)
	wantRead(t, d, 0, 2, api.Page{}, 0)
}

// 6.2 and R3: what was read stays as it is, whatever is written later.
func TestReadStays(t *testing.T) {
	d, _ := platter.New(4)
	p := page(1)
	wantWrite(t, d, 0, 0, p, 7, api.OK)
	p[0]++
	got, lsn, ok, code := leaf.Read(d, 0, 0)
	wantWrite(t, d, 0, 0, page(2), 8, api.OK)
	if got != page(1) || lsn != 7 || !ok || code != api.OK {
		t.Error("the page that was read has changed")
	}
	got[0]++
	wantRead(t, d, 0, 0, page(2), 8)
}

// 6.3: the bytes, and zero bytes behind them.
func TestOf(t *testing.T) {
	whole := page(3)
	for n := range api.PageSize + 1 {
		var want api.Page
		for i := range n {
			want[i] = whole[i]
		}
		if got, ok := leaf.Of(whole[:n]); got != want || !ok {
			t.Fatalf("Of of %d bytes = %v, %v, want %v", n, got, ok, want)
		}
	}
	for _, b := range [][]byte{nil, {}, {0}, make([]byte, 223), make([]byte, 224)} {
		if got, ok := leaf.Of(b); got != (api.Page{}) || !ok {
			t.Errorf("Of of %d zero bytes = %v, %v", len(b), got, ok)
		}
	}
}

// 6.3: more than 224 bytes are no page, not even if the last ones are 0.
func TestOfTooLong(t *testing.T) {
	for _, n := range []int{225, 226, 256, 448, 1 << 16, 1<<16 + 5} {
		for _, first := range []byte{0, 1} {
			b := make([]byte, n)
			b[0] = first
			if got, ok := leaf.Of(b); got != (api.Page{}) || ok {
				t.Errorf("Of of %d bytes = %v, %v", n, got, ok)
			}
		}
	}
}

// 6.3 and R3: Of neither changes nor retains its bytes, and does not read those behind them.
func TestOfMemory(t *testing.T) {
	for _, n := range []int{0, 1, 100, 223, 224, 225} {
		b := slices.Repeat([]byte{7}, 300)
		got, ok := leaf.Of(b[:n])
		if !slices.Equal(b, slices.Repeat([]byte{7}, 300)) {
			t.Errorf("Of changed its argument of %d bytes", n)
		}
		for i := range b {
			b[i] = 9
		}
		var want api.Page
		for i := range want {
			if n <= 224 && i < n {
				want[i] = 7
			}
		}
		if got != want || ok != (n <= 224) {
			t.Errorf("Of of %d bytes = %v, %v, want %v", n, got, ok, want)
		}
	}
}

// 6.3: a page is blank only if every byte is 0.
func TestBlank(t *testing.T) {
	if !leaf.Blank(api.Page{}) {
		t.Error("the zero page is not blank")
	}
	for i := range api.PageSize {
		for _, b := range []byte{1, 2, 0x10, 0x80, 0xff} {
			var p api.Page
			p[i] = b
			if leaf.Blank(p) {
				t.Errorf("a page whose byte %d is %d is blank", i, b)
			}
			p[i] = 0
			if !leaf.Blank(p) {
				t.Errorf("a page whose byte %d is 0 again is not blank", i)
			}
		}
	}
	if leaf.Blank(full(0xff)) || leaf.Blank(full(1)) || leaf.Blank(page(1)) {
		t.Error("a page of other bytes is blank")
	}
	if p, ok := leaf.Of(nil); !ok || !leaf.Blank(p) {
		t.Error("the page of no bytes is not blank")
	}
}
