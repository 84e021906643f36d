package platter_test

import (
	"math"
	"slices"
	"testing"

	"counterpane/api"
	"counterpane/platter"
)

// sector returns a sector whose bytes all differ from those of the sectors with other numbers below 256.
func sector(n int) api.Sector {
	var s api.Sector
	for i := range s {
		s[i] = byte(n + 3*i)
	}
	return s
}

// sectors returns n sectors, numbered from first on.
func sectors(first, n int) []api.Sector {
	var l []api.Sector
	for i := range n {
		l = append(l, sector(first+i))
	}
	return l
}

// fresh returns a disk of n zero sectors.
func fresh(t *testing.T, n int) *platter.Platter {
	t.Helper()
	p, code := platter.New(n)
	if code != api.OK || p == nil {
		t.Fatalf("New(%d) = %v, %d", n, p, code)
	}
	return p
}

// filled returns a disk of n sectors, numbered from 1 on, behind a single write.
func filled(t *testing.T, n int) *platter.Platter {
	t.Helper()
	p := fresh(t, n)
	wantWrite(t, p, 0, sectors(1, n), api.OK)
	return p
}

// failed returns a disk of n sectors, numbered from 1 on, whose power has failed behind a single completed write.
func failed(t *testing.T, n int) *platter.Platter {
	t.Helper()
	p := filled(t, n)
	p.Fuse(0, nil)
	wantWrite(t, p, 0, sectors(101, 1), api.ErrDown)
	return p
}

func wantWrite(t *testing.T, p *platter.Platter, at int, l []api.Sector, want api.Code) {
	t.Helper()
	if got := p.Write(at, l); got != want {
		t.Fatalf("Write(%d, %d sectors) = %d, want %d", at, len(l), got, want)
	}
}

func wantRead(t *testing.T, p *platter.Platter, at, n int, want []api.Sector) {
	t.Helper()
	if got, code := p.Read(at, n); code != api.OK || !slices.Equal(got, want) {
		t.Fatalf("Read(%d, %d) = %v, %d, want %v", at, n, got, code, want)
	}
}

func wantNoRead(t *testing.T, p *platter.Platter, at, n int, want api.Code) {
	t.Helper()
	if got, code := p.Read(at, n); code != want || len(got) != 0 {
		t.Fatalf("Read(%d, %d) = %v, %d, want the code %d alone", at, n, got, code, want)
	}
}

func wantImage(t *testing.T, p *platter.Platter, want []api.Sector) {
	t.Helper()
	if got := p.Image(); !slices.Equal(got, want) {
		t.Fatalf("Image() = %v, want %v", got, want)
	}
}

func wantState(t *testing.T, p *platter.Platter, size, writes int, down bool) {
	t.Helper()
	if p.Size() != size || p.Writes() != writes || p.Down() != down {
		t.Fatalf("Size, Writes, Down = %d, %d, %v, want %d, %d, %v", p.Size(), p.Writes(), p.Down(), size, writes, down)
	}
}

// 5.1: both ends of the range; all sectors are zero, and the disk is on.
func TestNew(t *testing.T) {
	if platter.MaxSectors != 16384 {
		t.Errorf("MaxSectors = %d", platter.MaxSectors)
	}
	for _, n := range []int{1, 2, 5, 1000, 16383, 16384} {
		p := fresh(t, n)
		wantState(t, p, n, 0, false)
		wantImage(t, p, make([]api.Sector, n))
		wantRead(t, p, 0, n, make([]api.Sector, n))
	}
}

// 5.1 and R2: beyond both ends there is no disk.
func TestNewOutside(t *testing.T) {
	for _, n := range []int{0, -1, -16384, math.MinInt, 16385, 1 << 15, 1 << 32, 1<<32 + 1, math.MaxInt} {
		if p, code := platter.New(n); code != api.ErrRange || p != nil {
			t.Errorf("New(%d) = %v, %d", n, p, code)
		}
	}
}

// 5.1: two disks have nothing in common.
func TestNewIsIndependent(t *testing.T) {
	a, b := fresh(t, 3), fresh(t, 3)
	a.Fuse(1, []bool{true})
	wantWrite(t, a, 0, sectors(1, 3), api.OK)
	wantWrite(t, a, 0, sectors(7, 3), api.ErrDown)
	wantState(t, b, 3, 0, false)
	wantImage(t, b, make([]api.Sector, 3))
}

// 5.1: a write counts by itself, however many sectors it has.
func TestWritesCountsCompleted(t *testing.T) {
	p := fresh(t, 5)
	for i, n := range []int{1, 5, 2, 0, 3} {
		wantWrite(t, p, 0, sectors(10*i, n), api.OK)
		wantState(t, p, 5, i+1, false)
	}
}

// 5.1: neither a read, nor a write that is rejected or in which the power fails, counts.
func TestWritesCountsNothingElse(t *testing.T) {
	p := filled(t, 3)
	wantRead(t, p, 0, 3, sectors(1, 3))
	wantWrite(t, p, 3, sectors(9, 1), api.ErrRange)
	wantWrite(t, p, -1, sectors(9, 1), api.ErrRange)
	wantWrite(t, p, 2, sectors(9, 2), api.ErrRange)
	p.Image()
	p.Twin()
	wantState(t, p, 3, 1, false)
	p.Fuse(0, []bool{true, true, true})
	wantWrite(t, p, 0, sectors(20, 3), api.ErrDown)
	wantState(t, p, 3, 1, true)
	wantWrite(t, p, 0, sectors(30, 3), api.ErrDown)
	wantState(t, p, 3, 1, true)
	p.Up()
	wantState(t, p, 3, 1, false)
	wantWrite(t, p, 0, sectors(40, 3), api.OK)
	wantState(t, p, 3, 2, false)
}

// places returns places and numbers of sectors: those of the disk, its neighbours, and some far outside, among them sums that do not fit in an int.
func places(size int) []int {
	l := []int{math.MinInt, math.MinInt + 1, -1 << 32, -size - 1, -size, -2, -1}
	for i := range size + 3 {
		l = append(l, i)
	}
	return append(l, 1<<32, 1<<32+1, math.MaxInt-size, math.MaxInt-1, math.MaxInt)
}

// exists reports whether sector at exists and there are n sectors from it on, by looking for each of them.
func exists(size, at, n int) bool {
	if at < 0 || at >= size || n < 0 || n > size {
		return false
	}
	for i := range n {
		if at+i >= size {
			return false
		}
	}
	return true
}

// 5.2: all places and numbers at and beyond both ends of the disk.
func TestReadEverywhere(t *testing.T) {
	for _, size := range []int{1, 2, 5} {
		p := filled(t, size)
		for _, at := range places(size) {
			for _, n := range places(size) {
				if exists(size, at, n) {
					wantRead(t, p, at, n, sectors(1+at, n))
				} else {
					wantNoRead(t, p, at, n, api.ErrRange)
				}
			}
		}
		wantImage(t, p, sectors(1, size))
		wantState(t, p, size, 1, false)
	}
}

// 5.2: the place behind the last sector does not exist, not even for no sectors.
func TestNoSectors(t *testing.T) {
	p := filled(t, 4)
	wantRead(t, p, 0, 0, nil)
	wantRead(t, p, 3, 0, nil)
	wantNoRead(t, p, 4, 0, api.ErrRange)
	wantNoRead(t, p, -1, 0, api.ErrRange)
	for _, l := range [][]api.Sector{nil, {}} {
		wantWrite(t, p, 0, l, api.OK)
		wantWrite(t, p, 3, l, api.OK)
		wantWrite(t, p, 4, l, api.ErrRange)
		wantWrite(t, p, -1, l, api.ErrRange)
	}
	wantImage(t, p, sectors(1, 4))
	wantState(t, p, 4, 5, false)
}

// 5.2: all places at and beyond both ends of the disk, with writes of all lengths.
func TestWriteEverywhere(t *testing.T) {
	for _, size := range []int{1, 2, 5} {
		for _, at := range places(size) {
			for n := range size + 3 {
				p := filled(t, size)
				want, writes := sectors(1, size), 1
				if exists(size, at, n) {
					wantWrite(t, p, at, sectors(101, n), api.OK)
					for i := range n {
						want[at+i] = sector(101 + i)
					}
					writes++
				} else {
					wantWrite(t, p, at, sectors(101, n), api.ErrRange)
				}
				wantImage(t, p, want)
				wantRead(t, p, 0, size, want)
				wantState(t, p, size, writes, false)
			}
		}
	}
}

// 5.2: the last sectors of the largest disk, and one more.
func TestLargestDisk(t *testing.T) {
	p := fresh(t, 16384)
	l := sectors(1, 2)
	wantWrite(t, p, 16382, l, api.OK)
	wantRead(t, p, 16382, 2, l)
	wantRead(t, p, 16381, 2, []api.Sector{{}, l[0]})
	wantWrite(t, p, 16383, l, api.ErrRange)
	wantNoRead(t, p, 16383, 2, api.ErrRange)
	all := make([]api.Sector, 16384)
	for i := range all {
		all[i] = api.Sector{byte(i), byte(i >> 8), 7}
	}
	wantWrite(t, p, 0, all, api.OK)
	wantRead(t, p, 0, 16384, all)
	wantWrite(t, p, 1, all, api.ErrRange)
	wantWrite(t, p, 0, append(all, api.Sector{}), api.ErrRange)
	wantNoRead(t, p, 0, 16385, api.ErrRange)
	wantImage(t, p, all)
	wantState(t, p, 16384, 2, false)
}

// 5.2: every byte of a sector is written and read.
func TestEveryByte(t *testing.T) {
	for i := range api.SectorSize {
		p := fresh(t, 3)
		var s api.Sector
		s[i] = 0xff
		wantWrite(t, p, 1, []api.Sector{s}, api.OK)
		wantRead(t, p, 0, 3, []api.Sector{{}, s, {}})
	}
}

// 5.2, R6 and P0: what does not exist is reported first, also where the power has failed.
func TestRangeAheadOfDown(t *testing.T) {
	size := 3
	p := failed(t, size)
	for _, at := range places(size) {
		for _, n := range places(size) {
			if exists(size, at, n) {
				wantNoRead(t, p, at, n, api.ErrDown)
			} else {
				wantNoRead(t, p, at, n, api.ErrRange)
			}
		}
		for n := range size + 3 {
			if exists(size, at, n) {
				wantWrite(t, p, at, sectors(50, n), api.ErrDown)
			} else {
				wantWrite(t, p, at, sectors(50, n), api.ErrRange)
			}
		}
	}
	wantImage(t, p, sectors(1, size))
	wantState(t, p, size, 1, true)
}

// 5.2: a write that is rejected is not the one in which the power fails, and does not bring that one nearer.
func TestRejectedWriteLeavesFuse(t *testing.T) {
	p := filled(t, 3)
	p.Fuse(1, []bool{true})
	for range 5 {
		wantWrite(t, p, 3, sectors(50, 1), api.ErrRange)
		wantWrite(t, p, 1, sectors(50, 3), api.ErrRange)
	}
	wantWrite(t, p, 0, sectors(60, 1), api.OK)
	for range 5 {
		wantWrite(t, p, -1, sectors(70, 1), api.ErrRange)
		wantWrite(t, p, 3, nil, api.ErrRange)
	}
	wantState(t, p, 3, 2, false)
	wantImage(t, p, []api.Sector{sector(60), sector(2), sector(3)})
	wantWrite(t, p, 1, sectors(80, 2), api.ErrDown)
	wantState(t, p, 3, 2, true)
	wantImage(t, p, []api.Sector{sector(60), sector(80), sector(3)})
}

// 5.2: reads neither bring a power failure nearer nor are they stopped by a scheduled one.
func TestReadLeavesFuse(t *testing.T) {
	p := filled(t, 2)
	p.Fuse(0, nil)
	for range 5 {
		wantRead(t, p, 0, 2, sectors(1, 2))
		wantNoRead(t, p, 2, 1, api.ErrRange)
		wantImage(t, p, sectors(1, 2))
	}
	wantState(t, p, 2, 1, false)
	wantWrite(t, p, 0, sectors(9, 1), api.ErrDown)
}

// 5.2: the chapter's example.
func TestSecondKept(t *testing.T) {
	p := filled(t, 4)
	p.Fuse(0, []bool{false, true})
	wantWrite(t, p, 1, sectors(101, 2), api.ErrDown)
	wantImage(t, p, []api.Sector{sector(1), sector(2), sector(102), sector(4)})
	wantState(t, p, 4, 1, true)
}

// keeps returns all slices of bools up to a length.
func keeps(most int) [][]bool {
	list := [][]bool{nil}
	for first := 0; first < len(list); first++ {
		if k := list[first]; len(k) < most {
			list = append(list, append(slices.Clone(k), false), append(slices.Clone(k), true))
		}
	}
	return list
}

// 5.2 and 5.3: every write to a small disk, torn in every way, with a keep that is empty, shorter and longer than the write.
func TestTornEverywhere(t *testing.T) {
	const size = 4
	for _, keep := range keeps(size + 2) {
		for at := range size {
			for n := range size - at + 1 {
				p := filled(t, size)
				p.Fuse(0, keep)
				want := sectors(1, size)
				for i := range n {
					if i < len(keep) && keep[i] {
						want[at+i] = sector(101 + i)
					}
				}
				wantWrite(t, p, at, sectors(101, n), api.ErrDown)
				wantImage(t, p, want)
				wantState(t, p, size, 1, true)
				p.Up()
				wantRead(t, p, 0, size, want)
			}
		}
	}
}

// 5.3: the keep of Fuse may be far longer than the disk, and no sector outside the write changes.
func TestLongKeep(t *testing.T) {
	p := filled(t, 5)
	p.Fuse(0, slices.Repeat([]bool{true}, 40000))
	wantWrite(t, p, 1, sectors(101, 2), api.ErrDown)
	wantImage(t, p, []api.Sector{sector(1), sector(101), sector(102), sector(4), sector(5)})

	p = fresh(t, 16384)
	keep := make([]bool, 16384)
	keep[16383] = true
	p.Fuse(0, keep)
	wantWrite(t, p, 0, slices.Repeat(sectors(7, 1), 16384), api.ErrDown)
	want := make([]api.Sector, 16384)
	want[16383] = sector(7)
	wantImage(t, p, want)
}

// 5.3: n writes are completed, and the power fails in the next one.
func TestFuseCountsWrites(t *testing.T) {
	for n := range 6 {
		p := filled(t, 2)
		p.Fuse(n, []bool{false, true})
		last := sectors(1, 2)
		for i := range n {
			last = sectors(10*i+10, 2)
			wantWrite(t, p, 0, last, api.OK)
			wantState(t, p, 2, i+2, false)
			wantImage(t, p, last)
		}
		wantWrite(t, p, 0, sectors(200, 2), api.ErrDown)
		wantState(t, p, 2, n+1, true)
		wantImage(t, p, []api.Sector{last[0], sector(201)})
	}
}

// 5.2 and 5.3: a write of no sectors is a write too.
func TestEmptyWriteCountsForFuse(t *testing.T) {
	p := filled(t, 2)
	p.Fuse(1, []bool{true, true})
	wantWrite(t, p, 0, nil, api.OK)
	wantState(t, p, 2, 2, false)
	wantWrite(t, p, 1, nil, api.ErrDown)
	wantState(t, p, 2, 2, true)
	wantImage(t, p, sectors(1, 2))
}

// 5.3: at first, and after a negative number, no power failure is scheduled.
func TestNoFuse(t *testing.T) {
	write := func(p *platter.Platter) {
		for i := range 20 {
			wantWrite(t, p, 0, sectors(i, 1), api.OK)
			wantState(t, p, 1, i+1, false)
		}
	}
	write(fresh(t, 1))
	for _, n := range []int{-1, -2, -1 << 32, math.MinInt + 1, math.MinInt} {
		p := fresh(t, 1)
		p.Fuse(n, []bool{true})
		write(p)
		p = fresh(t, 1)
		p.Fuse(0, []bool{true})
		p.Fuse(n, nil)
		write(p)
	}
	p := fresh(t, 1)
	p.Fuse(math.MaxInt, []bool{true})
	write(p)
}

// 5.3: only the last call of Fuse counts, be it sooner or later than the one before, and with writes between them or none.
func TestFuseAgain(t *testing.T) {
	for _, before := range []int{-1, 2, 3, 7, math.MaxInt} {
		for between := range 3 {
			for n := range 5 {
				p := filled(t, 3)
				p.Fuse(before, []bool{true, true, true})
				for range between {
					wantWrite(t, p, 0, sectors(1, 3), api.OK)
				}
				p.Fuse(n, []bool{false, true})
				for range n {
					wantWrite(t, p, 0, sectors(1, 3), api.OK)
				}
				wantState(t, p, 3, 1+between+n, false)
				wantWrite(t, p, 0, sectors(101, 3), api.ErrDown)
				wantImage(t, p, []api.Sector{sector(1), sector(102), sector(3)})
			}
		}
	}
}

// 5.3: Up restores the power, and the next failure has to be scheduled anew.
func TestUpAfterFailure(t *testing.T) {
	p := filled(t, 3)
	p.Fuse(0, []bool{true})
	wantWrite(t, p, 0, sectors(101, 2), api.ErrDown)
	for range 3 {
		wantNoRead(t, p, 0, 1, api.ErrDown)
		wantWrite(t, p, 0, sectors(111, 3), api.ErrDown)
		wantState(t, p, 3, 1, true)
	}
	p.Up()
	want := []api.Sector{sector(101), sector(2), sector(3)}
	wantState(t, p, 3, 1, false)
	wantRead(t, p, 0, 3, want)
	for i := range 5 {
		wantWrite(t, p, 0, sectors(10*i, 3), api.OK)
		wantRead(t, p, 0, 3, sectors(10*i, 3))
		wantState(t, p, 3, i+2, false)
	}
	p.Fuse(1, []bool{false, false, true})
	wantWrite(t, p, 0, sectors(1, 3), api.OK)
	wantWrite(t, p, 0, sectors(101, 3), api.ErrDown)
	wantImage(t, p, []api.Sector{sector(1), sector(2), sector(103)})
	wantState(t, p, 3, 7, true)
}

// 5.3: without a power failure Up changes nothing but the schedule.
func TestUpWithoutFailure(t *testing.T) {
	p := filled(t, 2)
	p.Up()
	wantState(t, p, 2, 1, false)
	wantImage(t, p, sectors(1, 2))
	for n := range 3 {
		p.Fuse(n, []bool{true})
		p.Up()
		for range 5 {
			wantWrite(t, p, 0, sectors(1, 2), api.OK)
		}
		wantState(t, p, 2, 1+5*(n+1), false)
	}
}

// 5.3: Fuse does not restore the power, and Up cancels what was scheduled while it was off.
func TestFuseWhileDown(t *testing.T) {
	for _, n := range []int{-1, 0, 1, 5} {
		p := failed(t, 2)
		p.Fuse(n, []bool{true, true})
		wantState(t, p, 2, 1, true)
		wantWrite(t, p, 0, sectors(50, 2), api.ErrDown)
		wantNoRead(t, p, 0, 1, api.ErrDown)
		wantImage(t, p, sectors(1, 2))
		p.Up()
		for i := range 8 {
			wantWrite(t, p, 0, sectors(10*i, 2), api.OK)
		}
		wantState(t, p, 2, 9, false)
	}
}

// 5.3: a scheduled power failure is not one yet.
func TestFuseIsNotDown(t *testing.T) {
	p := filled(t, 2)
	p.Fuse(0, nil)
	wantState(t, p, 2, 1, false)
	wantRead(t, p, 0, 2, sectors(1, 2))
}

// 5.4: Image does not depend on the power.
func TestImage(t *testing.T) {
	p := fresh(t, 3)
	wantImage(t, p, make([]api.Sector, 3))
	wantWrite(t, p, 1, sectors(5, 1), api.OK)
	wantImage(t, p, []api.Sector{{}, sector(5), {}})
	p.Fuse(0, []bool{true})
	wantImage(t, p, []api.Sector{{}, sector(5), {}})
	wantWrite(t, p, 2, sectors(8, 1), api.ErrDown)
	wantImage(t, p, []api.Sector{{}, sector(5), sector(8)})
	p.Up()
	wantImage(t, p, []api.Sector{{}, sector(5), sector(8)})
}

// spoil overwrites all memory of a slice, also behind its length.
func spoil(l []api.Sector) {
	l = l[:cap(l)]
	for i := range l {
		l[i] = sector(250)
	}
}

// 5.2, 5.4 and R3: what was returned stays as it is, whatever is written later.
func TestResultsStay(t *testing.T) {
	p := filled(t, 4)
	read, _ := p.Read(1, 2)
	image := p.Image()
	twin := p.Twin()
	for i := range 4 {
		wantWrite(t, p, i, sectors(101, 1), api.OK)
	}
	p.Fuse(0, []bool{true, true, true, true})
	wantWrite(t, p, 0, sectors(201, 4), api.ErrDown)
	if !slices.Equal(read, sectors(2, 2)) {
		t.Errorf("the result of Read is now %v", read)
	}
	if !slices.Equal(image, sectors(1, 4)) {
		t.Errorf("the result of Image is now %v", image)
	}
	wantImage(t, twin, sectors(1, 4))
	wantState(t, twin, 4, 1, false)
}

// 5.2, 5.4 and R3: the caller may overwrite what was returned, also what lies behind its length.
func TestResultsAreTheCallers(t *testing.T) {
	p := filled(t, 4)
	twin := p.Twin()
	for at := range 4 {
		for n := range 4 - at + 1 {
			read, _ := p.Read(at, n)
			spoil(read)
			_ = append(read, sector(251))
		}
	}
	image := p.Image()
	spoil(image)
	_ = append(image, sector(251))
	wantImage(t, p, sectors(1, 4))
	wantImage(t, twin, sectors(1, 4))
	wantRead(t, p, 0, 4, sectors(1, 4))
}

// 5.2 and R3: Write neither changes nor retains its sectors, and does not read those behind them.
func TestWriteLeavesArgument(t *testing.T) {
	for _, fuse := range []int{-1, 0} {
		p := fresh(t, 5)
		all := sectors(1, 5)
		p.Fuse(fuse, []bool{true, true, true, true, true})
		p.Write(1, all[:2])
		if !slices.Equal(all, sectors(1, 5)) {
			t.Errorf("fuse %d: Write changed its argument to %v", fuse, all)
		}
		spoil(all)
		wantImage(t, p, []api.Sector{{}, sector(1), sector(2), {}, {}})
		p.Up()
		wantWrite(t, p, 0, sectors(51, 5), api.OK)
		p.Fuse(0, []bool{true, true, true, true, true})
		wantWrite(t, p, 0, sectors(61, 5), api.ErrDown)
		for i, s := range all {
			if s != sector(250) {
				t.Errorf("fuse %d: sector %d of the argument is written later", fuse, i)
			}
		}
	}
}

// 5.3 and R3: Fuse neither changes nor retains its keep, and what lies behind its length does not count.
func TestFuseLeavesArgument(t *testing.T) {
	p := filled(t, 4)
	keep := []bool{false, true, true, true}
	p.Fuse(1, keep[:2])
	for i := range keep {
		keep[i] = !keep[i]
	}
	wantWrite(t, p, 0, sectors(1, 4), api.OK)
	wantWrite(t, p, 0, sectors(101, 4), api.ErrDown)
	wantImage(t, p, []api.Sector{sector(1), sector(102), sector(3), sector(4)})
	p.Up()
	if !slices.Equal(keep, []bool{true, false, false, false}) {
		t.Errorf("Fuse changed its argument: %v", keep)
	}
}

// 5.3 and R3: memory behind a shorter keep is not read, also if Fuse is called before with a longer one.
func TestShorterKeepAfterLonger(t *testing.T) {
	p := filled(t, 3)
	p.Fuse(0, []bool{true, true, true})
	p.Fuse(0, []bool{true})
	wantWrite(t, p, 0, sectors(101, 3), api.ErrDown)
	wantImage(t, p, []api.Sector{sector(101), sector(2), sector(3)})
}

// 5.4: a twin is an equal disk, also where a power failure is scheduled or has happened.
func TestTwinPower(t *testing.T) {
	p := filled(t, 2)
	p.Fuse(1, []bool{false, true})
	for _, d := range []*platter.Platter{p.Twin(), p.Twin().Twin(), p} {
		wantState(t, d, 2, 1, false)
		wantImage(t, d, sectors(1, 2))
		wantWrite(t, d, 0, sectors(11, 2), api.OK)
		wantState(t, d, 2, 2, false)
		wantWrite(t, d, 0, sectors(21, 2), api.ErrDown)
		wantImage(t, d, []api.Sector{sector(11), sector(22)})
		wantState(t, d, 2, 2, true)
	}
	twin := p.Twin()
	wantState(t, twin, 2, 2, true)
	wantNoRead(t, twin, 0, 1, api.ErrDown)
	wantWrite(t, twin, 0, sectors(31, 1), api.ErrDown)
	twin.Up()
	wantState(t, twin, 2, 2, false)
	wantState(t, p, 2, 2, true)
	wantWrite(t, twin, 0, sectors(31, 1), api.OK)
	wantState(t, twin, 2, 3, false)
	wantState(t, p, 2, 2, true)
	wantImage(t, twin, []api.Sector{sector(31), sector(22)})
	wantImage(t, p, []api.Sector{sector(11), sector(22)})
}

// 5.4: neither of two twins notices what happens to the other one.
func TestTwinIsIndependent(t *testing.T) {
	for _, swap := range []bool{false, true} {
		a := filled(t, 3)
		a.Fuse(2, []bool{true})
		b := a.Twin()
		if swap {
			a, b = b, a
		}
		wantWrite(t, a, 0, sectors(11, 3), api.OK)
		wantImage(t, b, sectors(1, 3))
		a.Fuse(0, []bool{false, false, true})
		wantWrite(t, a, 0, sectors(21, 3), api.ErrDown)
		wantState(t, b, 3, 1, false)
		wantImage(t, b, sectors(1, 3))
		a.Up()
		for i := range 2 {
			wantWrite(t, b, 0, sectors(31, 3), api.OK)
			wantState(t, b, 3, i+2, false)
		}
		wantWrite(t, b, 0, sectors(41, 3), api.ErrDown)
		wantImage(t, b, []api.Sector{sector(41), sector(32), sector(33)})
		wantState(t, a, 3, 2, false)
		wantImage(t, a, []api.Sector{sector(11), sector(12), sector(23)})
	}
}

// model is a disk as chapter 5 describes it: all calls are kept, and each answer is worked out from the beginning.
type model struct {
	size  int
	calls []call
}

// call is one that may change a disk: a write of l at a place, Fuse with n and keep, or Up.
type call struct {
	kind, at, n int
	l           []api.Sector
	keep        []bool
}

const (
	callWrite = iota
	callFuse
	callUp
)

// play returns the sectors, the completed writes, whether the power has failed, and the code of the last call.
func (m model) play() (image []api.Sector, writes int, down bool, code api.Code) {
	image = make([]api.Sector, m.size)
	var fuse *call
	behind := 0
	for i, c := range m.calls {
		code = api.OK
		switch c.kind {
		case callFuse:
			fuse, behind = nil, 0
			if c.n >= 0 {
				fuse = &m.calls[i]
			}
		case callUp:
			fuse, down = nil, false
		case callWrite:
			switch {
			case !exists(m.size, c.at, len(c.l)):
				code = api.ErrRange
			case down:
				code = api.ErrDown
			default:
				torn := fuse != nil && behind == fuse.n
				for j, s := range c.l {
					if !torn || j < len(fuse.keep) && fuse.keep[j] {
						image[c.at+j] = s
					}
				}
				if torn {
					down, code = true, api.ErrDown
				} else {
					writes++
					behind++
				}
			}
		}
	}
	return image, writes, down, code
}

// noise returns a function for numbers below a limit that look random and are the same in every run.
func noise(seed uint64) func(limit int) int {
	x := seed*0x9e3779b97f4a7c15 + 1
	return func(limit int) int {
		x ^= x << 13
		x ^= x >> 7
		x ^= x << 17
		return int(x>>33) % limit
	}
}

// randomCall returns a call, most often a write that fits.
func randomCall(next func(int) int, size, number int) call {
	switch next(10) {
	case 0:
		return call{kind: callUp}
	case 1, 2:
		keep := make([]bool, next(size+3))
		for i := range keep {
			keep[i] = next(2) == 1
		}
		return call{kind: callFuse, n: next(6) - 1, keep: keep}
	default:
		return call{kind: callWrite, at: next(size+2) - 1, l: sectors(number, next(size+2))}
	}
}

// do makes a call on a disk and returns its code.
func do(p *platter.Platter, c call) api.Code {
	switch c.kind {
	case callFuse:
		p.Fuse(c.n, c.keep)
	case callUp:
		p.Up()
	case callWrite:
		return p.Write(c.at, c.l)
	}
	return api.OK
}

// wantModel checks all that a disk tells of itself.
func wantModel(t *testing.T, p *platter.Platter, m model, code api.Code) {
	t.Helper()
	image, writes, down, want := m.play()
	if code != want {
		t.Fatalf("the code of call %d is %d, want %d", len(m.calls), code, want)
	}
	wantState(t, p, m.size, writes, down)
	wantImage(t, p, image)
	for at := range m.size {
		if n := m.size - at; down {
			wantNoRead(t, p, at, n, api.ErrDown)
		} else {
			wantRead(t, p, at, n, image[at:])
		}
	}
}

// 5.1 to 5.4 and P6: many sequences of calls, with a twin that is made on the way and goes another one.
func TestByModel(t *testing.T) {
	for seed := range uint64(300) {
		next := noise(seed)
		size := 1 + next(5)
		p, m := fresh(t, size), model{size: size}
		var twin *platter.Platter
		var twinModel model
		for i := range 60 {
			c := randomCall(next, size, i)
			m.calls = append(m.calls, c)
			wantModel(t, p, m, do(p, c))
			if i == 30 {
				twin, twinModel = p.Twin(), model{size: size, calls: slices.Clone(m.calls)}
			}
			if twin != nil {
				c := randomCall(next, size, 100+i)
				twinModel.calls = append(twinModel.calls, c)
				wantModel(t, twin, twinModel, do(twin, c))
			}
		}
	}
}
