package scale_test

import (
	"math"
	"slices"
	"testing"

	"counterpane/api"
	"counterpane/scale"
)

// largest is the largest number.
const largest = math.MaxUint32

// cutLists returns lists of cuts, each of which is that of a scale.
func cutLists() [][]uint32 {
	return [][]uint32{
		nil,
		{1},
		{2},
		{10},
		{1 << 31},
		{largest},
		{1, 2},
		{10, 20},
		{largest - 1, largest},
		{1, largest},
		{1, 1 << 16, 1 << 31},
		{5, 6, 10, 1000},
		{255, 256, 257, 65535, 65536},
		{1, 2, 3, 4, 5, 6},
		{1, 2, 3, 4, 5, 6, 7},
		{10, 20, 30, 40, 50, 60, 70},
		{1 << 29, 2 << 29, 3 << 29, 4 << 29, 5 << 29, 6 << 29, 7 << 29},
		{largest - 6, largest - 5, largest - 4, largest - 3, largest - 2, largest - 1, largest},
	}
}

// of returns the scale with these cuts.
func of(t *testing.T, cuts ...uint32) scale.Scale {
	t.Helper()
	s, ok := scale.Of(cuts...)
	if !ok {
		t.Fatalf("Of(%d) is no scale", cuts)
	}
	return s
}

// wantScale checks that a scale has exactly these cuts.
func wantScale(t *testing.T, s scale.Scale, cuts ...uint32) {
	t.Helper()
	if got := s.Cuts(); !slices.Equal(got, cuts) {
		t.Errorf("cuts %d, want %d", got, cuts)
	}
	if s.Len() != len(cuts)+1 {
		t.Errorf("cuts %d: Len %d", cuts, s.Len())
	}
	if same, ok := scale.Of(cuts...); !ok || !scale.Same(s, same) || !scale.Same(same, s) || s != same {
		t.Errorf("cuts %d: not the same as Of of them", cuts)
	}
}

// wantNoScale checks that Of rejects these cuts.
func wantNoScale(t *testing.T, cuts ...uint32) {
	t.Helper()
	s, ok := scale.Of(cuts...)
	if ok {
		t.Errorf("Of(%d) is a scale", cuts)
	}
	wantScale(t, s)
}

// beside returns numbers that a scale with these cuts may confuse: the cuts, those around them and between them, and the ends of all numbers.
func beside(cuts []uint32) []uint32 {
	l := []uint32{0, 1, 2, 9, 10, 11, 1 << 16, 1<<31 - 1, 1 << 31, 1<<31 + 1, largest - 1, largest}
	last := uint32(0)
	for _, c := range cuts {
		l = append(l, last+(c-last)/2, c-1, c)
		if c < largest {
			l = append(l, c+1)
		}
		last = c
	}
	slices.Sort(l)
	return slices.Compact(l)
}

// countUpTo returns how many of the numbers are at most x.
func countUpTo(l []uint32, x uint32) int {
	n := 0
	for _, y := range l {
		if y <= x {
			n++
		}
	}
	return n
}

// noise returns a function that yields numbers which depend on the seed alone.
func noise(seed uint64) func() uint64 {
	return func() uint64 {
		seed += 0x9e3779b97f4a7c15
		x := seed
		x = (x ^ x>>30) * 0xbf58476d1ce4e5b9
		x = (x ^ x>>27) * 0x94d049bb133111eb
		return x ^ x>>31
	}
}

// 15.1: the limit.
func TestMaxCuts(t *testing.T) {
	if scale.MaxCuts != 7 {
		t.Errorf("MaxCuts %d", scale.MaxCuts)
	}
}

// 15.1: scales of none to seven cuts.
func TestOf(t *testing.T) {
	for _, cuts := range cutLists() {
		wantScale(t, of(t, cuts...), cuts...)
	}
}

// 15.1: the scale without cuts is that of no numbers, of nil and of an empty slice, and the zero scale.
func TestOfNone(t *testing.T) {
	for _, cuts := range [][]uint32{nil, {}, make([]uint32, 0, 9)} {
		wantScale(t, of(t, cuts...))
	}
	wantScale(t, of(t))
	wantScale(t, scale.Scale{})
}

// 15.1: more than seven cuts are no scale, also where they ascend.
func TestOfTooMany(t *testing.T) {
	wantNoScale(t, 1, 2, 3, 4, 5, 6, 7, 8)
	wantNoScale(t, 10, 20, 30, 40, 50, 60, 70, 80)
	wantNoScale(t, largest-7, largest-6, largest-5, largest-4, largest-3, largest-2, largest-1, largest)
	wantNoScale(t, 1, 2, 3, 4, 5, 6, 7, 0)
	for _, n := range []int{9, 14, 15, 16, 255, 256, 257, 263, 1 << 16} {
		var cuts []uint32
		for i := range n {
			cuts = append(cuts, uint32(i)+1)
		}
		wantNoScale(t, cuts...)
	}
}

// 15.1: 0 is no cut, in whatever place.
func TestOfZero(t *testing.T) {
	wantNoScale(t, 0)
	wantNoScale(t, 0, 0)
	for _, cuts := range cutLists() {
		for i := range cuts {
			other := slices.Clone(cuts)
			other[i] = 0
			wantNoScale(t, other...)
		}
		if len(cuts) < scale.MaxCuts {
			wantNoScale(t, slices.Insert(slices.Clone(cuts), 0, 0)...)
			wantNoScale(t, slices.Concat(cuts, []uint32{0})...)
		}
	}
}

// 15.1: two equal cuts, in the first, a middle and the last place.
func TestOfEqual(t *testing.T) {
	wantNoScale(t, 1, 1)
	wantNoScale(t, largest, largest)
	wantNoScale(t, 5, 5, 10, 20)
	wantNoScale(t, 5, 10, 10, 20)
	wantNoScale(t, 5, 10, 20, 20)
	wantNoScale(t, 7, 7, 7, 7, 7, 7, 7)
	for _, cuts := range cutLists() {
		for i := 1; i < len(cuts); i++ {
			other := slices.Clone(cuts)
			other[i] = other[i-1]
			wantNoScale(t, other...)
		}
	}
}

// 15.1: two cuts that do not ascend, in the first, a middle and the last place.
func TestOfFalling(t *testing.T) {
	wantNoScale(t, 2, 1)
	wantNoScale(t, largest, 1)
	wantNoScale(t, 1<<31, 1<<31-1)
	wantNoScale(t, 10, 5, 20, 30)
	wantNoScale(t, 5, 20, 10, 30)
	wantNoScale(t, 5, 10, 30, 20)
	wantNoScale(t, 20, 10, 15, 30) // each but one is greater than the one ahead of it
	wantNoScale(t, 10, 30, 20, 30)
	wantNoScale(t, 7, 6, 5, 4, 3, 2, 1)
	for _, cuts := range cutLists() {
		for i := 1; i < len(cuts); i++ {
			other := slices.Clone(cuts)
			other[i-1], other[i] = other[i], other[i-1]
			wantNoScale(t, other...)
		}
	}
}

// 15.1: Of against the definition, for all lists of at most four small numbers.
func TestOfSmall(t *testing.T) {
	var walk func(cuts []uint32)
	walk = func(cuts []uint32) {
		right := true
		for i, c := range cuts {
			right = right && c > 0 && (i == 0 || c > cuts[i-1])
		}
		if right {
			wantScale(t, of(t, cuts...), cuts...)
		} else {
			wantNoScale(t, cuts...)
		}
		if len(cuts) == 4 {
			return
		}
		for c := range uint32(5) {
			walk(slices.Concat(cuts, []uint32{c}))
		}
	}
	walk(nil)
}

// 15.1, R3: Of neither changes nor keeps the numbers that it is given, nor does it look behind them.
func TestOfMemory(t *testing.T) {
	for _, cuts := range cutLists() {
		memory := slices.Concat(cuts, []uint32{0, 77, 3})
		given := memory[:len(cuts)]
		s := of(t, given...)
		if !slices.Equal(memory, slices.Concat(cuts, []uint32{0, 77, 3})) {
			t.Errorf("Of(%d) left %d", cuts, memory)
		}
		for i := range memory {
			memory[i] = 4
		}
		wantScale(t, s, cuts...)
	}
	bad := []uint32{3, 2, 1}
	wantNoScale(t, bad...)
	if !slices.Equal(bad, []uint32{3, 2, 1}) {
		t.Errorf("Of changed its numbers to %d", bad)
	}
}

// 15.1, R3: what Cuts returns may be written to, also behind its length.
func TestCutsMemory(t *testing.T) {
	for _, cuts := range cutLists() {
		s := of(t, cuts...)
		first, second := s.Cuts(), s.Cuts()
		for i := range first {
			first[i] = 0
		}
		_ = append(first[:0:cap(first)], 9, 9, 9, 9, 9, 9, 9, 9)
		if !slices.Equal(second, cuts) {
			t.Errorf("cuts %d: the other result is %d", cuts, second)
		}
		wantScale(t, s, cuts...)
	}
}

// 15.1: Same compares the cuts and nothing else.
func TestSame(t *testing.T) {
	lists := cutLists()
	for i, a := range lists {
		for j, b := range lists {
			if scale.Same(of(t, a...), of(t, b...)) != (i == j) {
				t.Errorf("Same of %d and %d: %t", a, b, i != j)
			}
		}
	}
}

// 15.1: scales with other cuts in any one place, and with more of them at either end, are not the same.
func TestNotSame(t *testing.T) {
	for n := 1; n <= scale.MaxCuts; n++ {
		cuts := []uint32{10, 20, 30, 40, 50, 60, 70}[:n]
		s := of(t, cuts...)
		for i := range cuts {
			for _, by := range []uint32{1, math.MaxUint32} { // to the next number, and to the one ahead
				other := slices.Clone(cuts)
				other[i] += by
				differ(t, s, of(t, other...))
			}
			differ(t, s, of(t, slices.Delete(slices.Clone(cuts), i, i+1)...))
		}
		if n < scale.MaxCuts {
			differ(t, s, of(t, slices.Concat(cuts, []uint32{71})...))
			differ(t, s, of(t, slices.Concat([]uint32{1}, cuts)...))
		}
		differ(t, s, of(t))
	}
}

// differ checks that two scales are not the same.
func differ(t *testing.T, a, b scale.Scale) {
	t.Helper()
	if scale.Same(a, b) || scale.Same(b, a) {
		t.Errorf("%d and %d are the same", a.Cuts(), b.Cuts())
	}
}

// 15.1: equal scales are the same, whatever they were made of.
func TestSameHoweverMade(t *testing.T) {
	want := of(t, 10, 20, 30)
	orders := [][]uint32{{10, 20, 30}, {10, 30, 20}, {20, 10, 30}, {20, 30, 10}, {30, 10, 20}, {30, 20, 10}}
	for _, order := range orders {
		var s scale.Scale
		for _, at := range order {
			s, _, _ = s.Cut(at)
		}
		if !scale.Same(s, want) || !scale.Same(want, s) {
			t.Errorf("cut at %d: %d", order, s.Cuts())
		}
	}
}

// 15.2: intervals by hand.
func TestAtKnown(t *testing.T) {
	s := of(t, 10, 20)
	for _, c := range []struct {
		x uint32
		i int
	}{
		{0, 0}, {1, 0}, {9, 0},
		{10, 1}, {11, 1}, {15, 1}, {19, 1},
		{20, 2}, {21, 2}, {1 << 31, 2}, {largest - 1, 2}, {largest, 2},
	} {
		if got := s.At(c.x); got != c.i {
			t.Errorf("At(%d) = %d, want %d", c.x, got, c.i)
		}
	}
}

// 15.2: 0 lies in the first interval and the largest number in the last one.
func TestAtEnds(t *testing.T) {
	for _, cuts := range cutLists() {
		s := of(t, cuts...)
		if s.At(0) != 0 || s.At(largest) != len(cuts) {
			t.Errorf("cuts %d: At(0) = %d, At(largest) = %d", cuts, s.At(0), s.At(largest))
		}
	}
}

// 15.2: each cut is the smallest number of an interval, the number ahead of it the largest one of the interval ahead.
func TestAtCuts(t *testing.T) {
	for _, cuts := range cutLists() {
		s := of(t, cuts...)
		for i, c := range cuts {
			if s.At(c-1) != i || s.At(c) != i+1 {
				t.Errorf("cuts %d: At(%d) = %d, At(%d) = %d", cuts, c-1, s.At(c-1), c, s.At(c))
			}
			if lone := c < largest && !slices.Contains(cuts, c+1); lone && s.At(c+1) != i+1 {
				t.Errorf("cuts %d: At(%d) = %d", cuts, c+1, s.At(c+1))
			}
		}
	}
}

// 15.2: At is the number of the cuts that are at most x.
func TestAtByDefinition(t *testing.T) {
	for _, cuts := range cutLists() {
		s := of(t, cuts...)
		for _, x := range beside(cuts) {
			if got := s.At(x); got != countUpTo(cuts, x) {
				t.Errorf("cuts %d: At(%d) = %d", cuts, x, got)
			}
		}
	}
}

// 15.2: the ends of intervals by hand, and 1 and 0 for others.
func TestEndsKnown(t *testing.T) {
	for _, c := range []struct {
		cuts        []uint32
		i           int
		least, most uint32
	}{
		{nil, 0, 0, largest},
		{nil, 1, 1, 0},
		{nil, -1, 1, 0},
		{[]uint32{1}, 0, 0, 0},
		{[]uint32{1}, 1, 1, largest},
		{[]uint32{largest}, 0, 0, largest - 1},
		{[]uint32{largest}, 1, largest, largest},
		{[]uint32{10, 20}, -1, 1, 0},
		{[]uint32{10, 20}, 0, 0, 9},
		{[]uint32{10, 20}, 1, 10, 19},
		{[]uint32{10, 20}, 2, 20, largest},
		{[]uint32{10, 20}, 3, 1, 0},
		{[]uint32{10, 11}, 1, 10, 10},
		{[]uint32{10, 20, 30, 40, 50, 60, 70}, 0, 0, 9},
		{[]uint32{10, 20, 30, 40, 50, 60, 70}, 3, 30, 39},
		{[]uint32{10, 20, 30, 40, 50, 60, 70}, 6, 60, 69},
		{[]uint32{10, 20, 30, 40, 50, 60, 70}, 7, 70, largest},
		{[]uint32{10, 20, 30, 40, 50, 60, 70}, 8, 1, 0},
	} {
		least, most := of(t, c.cuts...).Ends(c.i)
		if least != c.least || most != c.most {
			t.Errorf("cuts %d: Ends(%d) = %d, %d, want %d, %d", c.cuts, c.i, least, most, c.least, c.most)
		}
	}
}

// 15.2, R5: negative and too large numbers of intervals, however far they are out of range.
func TestEndsOfNone(t *testing.T) {
	for _, cuts := range cutLists() {
		s := of(t, cuts...)
		n := s.Len()
		for _, i := range []int{
			-1, -2, -n, -7, -8, -9, -256, math.MinInt, math.MinInt + 1, -1 << 32,
			n, n + 1, n + 6, n + 7, n + 8, 16, 255, 256, 1 << 16, 1 << 32, 1<<32 + 1, math.MaxInt - 1, math.MaxInt,
		} {
			if least, most := s.Ends(i); least != 1 || most != 0 {
				t.Errorf("cuts %d: Ends(%d) = %d, %d", cuts, i, least, most)
			}
		}
	}
}

// 15.3: cuts in the first, a middle and the last interval.
func TestCutKnown(t *testing.T) {
	for _, c := range []struct {
		cuts []uint32
		at   uint32
		want []uint32
		i    int
	}{
		{nil, 1, []uint32{1}, 0},
		{nil, 10, []uint32{10}, 0},
		{nil, largest, []uint32{largest}, 0},
		{[]uint32{10}, 1, []uint32{1, 10}, 0},
		{[]uint32{10}, 9, []uint32{9, 10}, 0},
		{[]uint32{10}, 11, []uint32{10, 11}, 1},
		{[]uint32{10}, largest, []uint32{10, largest}, 1},
		{[]uint32{10, 20, 30}, 5, []uint32{5, 10, 20, 30}, 0},
		{[]uint32{10, 20, 30}, 15, []uint32{10, 15, 20, 30}, 1},
		{[]uint32{10, 20, 30}, 29, []uint32{10, 20, 29, 30}, 2},
		{[]uint32{10, 20, 30}, 31, []uint32{10, 20, 30, 31}, 3},
		{[]uint32{2, 3, 4, 5, 6, 7}, 1, []uint32{1, 2, 3, 4, 5, 6, 7}, 0},
		{[]uint32{1, 2, 3, 5, 6, 7}, 4, []uint32{1, 2, 3, 4, 5, 6, 7}, 3},
		{[]uint32{1, 2, 3, 4, 5, 6}, 7, []uint32{1, 2, 3, 4, 5, 6, 7}, 6},
	} {
		s := of(t, c.cuts...)
		u, i, code := s.Cut(c.at)
		if i != c.i || code != api.OK {
			t.Errorf("cuts %d: Cut(%d) = %d, %d, want %d", c.cuts, c.at, i, code, c.i)
		}
		wantScale(t, u, c.want...)
		wantScale(t, s, c.cuts...)
	}
}

// wantNoCut checks that a scale with these cuts cannot be cut there.
func wantNoCut(t *testing.T, cuts []uint32, at uint32, want api.Code) {
	t.Helper()
	s := of(t, cuts...)
	u, i, code := s.Cut(at)
	if i != 0 || code != want {
		t.Errorf("cuts %d: Cut(%d) = %d, %d, want 0, %d", cuts, at, i, code, want)
	}
	wantScale(t, u, cuts...)
	wantScale(t, s, cuts...)
}

// 15.3: at the smallest number of an interval, 0 among them, nothing is left to be cut, also where there are MaxCuts cuts.
func TestCutTwice(t *testing.T) {
	for _, cuts := range cutLists() {
		wantNoCut(t, cuts, 0, api.ErrTwice)
		for _, c := range cuts {
			wantNoCut(t, cuts, c, api.ErrTwice)
		}
	}
}

// 15.3: with MaxCuts cuts there is no room for another one, in whatever interval.
func TestCutFull(t *testing.T) {
	full := 0
	for _, cuts := range cutLists() {
		if len(cuts) < scale.MaxCuts {
			continue
		}
		full++
		for _, x := range beside(cuts) {
			if x > 0 && !slices.Contains(cuts, x) {
				wantNoCut(t, cuts, x, api.ErrFull)
			}
		}
	}
	if full < 2 {
		t.Error("no full scales")
	}
}

// 15.3: cuts by the definition, on scales with room.
func TestCutByDefinition(t *testing.T) {
	for _, cuts := range cutLists() {
		if len(cuts) == scale.MaxCuts {
			continue
		}
		s := of(t, cuts...)
		for _, x := range beside(cuts) {
			if x == 0 || slices.Contains(cuts, x) {
				continue
			}
			u, i, code := s.Cut(x)
			if i != countUpTo(cuts, x) || code != api.OK {
				t.Errorf("cuts %d: Cut(%d) = %d, %d", cuts, x, i, code)
			}
			want := slices.Concat(cuts, []uint32{x})
			slices.Sort(want)
			wantScale(t, u, want...)
			wantScale(t, s, cuts...)
		}
	}
}

// 15.3: the interval that was cut is two intervals, and the others are as they were.
func TestCutInterval(t *testing.T) {
	s := of(t, 10, 20, 30)
	u, i, code := s.Cut(25)
	if i != 2 || code != api.OK {
		t.Fatalf("Cut(25) = %d, %d", i, code)
	}
	wantEnds(t, u, [][2]uint32{{0, 9}, {10, 19}, {20, 24}, {25, 29}, {30, largest}})
	wantEnds(t, s, [][2]uint32{{0, 9}, {10, 19}, {20, 29}, {30, largest}})
}

// wantEnds checks the ends of all intervals of a scale.
func wantEnds(t *testing.T, s scale.Scale, want [][2]uint32) {
	t.Helper()
	if s.Len() != len(want) {
		t.Fatalf("cuts %d: %d intervals", s.Cuts(), s.Len())
	}
	for i, w := range want {
		if least, most := s.Ends(i); least != w[0] || most != w[1] {
			t.Errorf("cuts %d: Ends(%d) = %d, %d", s.Cuts(), i, least, most)
		}
	}
}

// 15.1, 15.3: a scale is a value: two cuts of one scale do not meet, and earlier scales stay as they are.
func TestScaleIsValue(t *testing.T) {
	a := of(t, 10, 30)
	copied := a
	b, _, _ := a.Cut(20)
	c, _, _ := a.Cut(40)
	d, _, _ := b.Cut(5)
	wantScale(t, a, 10, 30)
	wantScale(t, copied, 10, 30)
	wantScale(t, b, 10, 20, 30)
	wantScale(t, c, 10, 30, 40)
	wantScale(t, d, 5, 10, 20, 30)

	var all []scale.Scale
	s := scale.Scale{}
	for n := range uint32(scale.MaxCuts) {
		all = append(all, s)
		s, _, _ = s.Cut(100 - n) // each ahead of all others, so that they move
	}
	for n, s := range all {
		var want []uint32
		for i := range uint32(n) {
			want = append(want, 100-uint32(n)+1+i)
		}
		wantScale(t, s, want...)
	}
}

// middleOf returns the middle of numbers by its definition; false: there is none.
func middleOf(l []uint32) (uint32, bool) {
	if len(l) == 0 {
		return 0, false
	}
	least := slices.Min(l)
	best, bestGap, found := uint32(0), 0, false
	for _, c := range l {
		if c <= least {
			continue
		}
		below := 0
		for _, x := range l {
			if x < c {
				below++
			}
		}
		gap := below - (len(l) - below)
		if gap < 0 {
			gap = -gap
		}
		if !found || gap < bestGap || gap == bestGap && c < best {
			best, bestGap, found = c, gap, true
		}
	}
	return best, found
}

// 15.4: middles by hand.
func TestMiddleKnown(t *testing.T) {
	for _, c := range []struct {
		l    []uint32
		want uint32
	}{
		{[]uint32{1, 2}, 2},
		{[]uint32{2, 1}, 2},
		{[]uint32{0, largest}, largest},
		{[]uint32{largest, 0}, largest},
		{[]uint32{largest - 1, largest}, largest},
		{[]uint32{0, 1}, 1},
		{[]uint32{1, 2, 3}, 2}, // 1 and 2, or 2 and 1: both differ by 1
		{[]uint32{3, 1, 2}, 2},
		{[]uint32{1, 2, 3, 4}, 3},
		{[]uint32{4, 3, 2, 1}, 3},
		{[]uint32{2, 4, 1, 3}, 3},
		{[]uint32{1, 2, 3, 4, 5}, 3}, // 3 and 4 divide equally well
		{[]uint32{1, 2, 3, 4, 5, 6}, 4},
		{[]uint32{5, 1, 9, 9}, 9}, // the chapter's example
		{[]uint32{1, 1, 1, 2}, 2},
		{[]uint32{2, 1, 1, 1}, 2},
		{[]uint32{1, 2, 2, 2}, 2},
		{[]uint32{1, 5, 5, 5, 9}, 5},       // 1 and 4; 4 and 1: equally well
		{[]uint32{1, 5, 5, 5, 9, 9}, 9},    // 1 and 5; 4 and 2
		{[]uint32{1, 1, 5, 5, 5, 5, 9}, 5}, // 2 and 5; 6 and 1
		{[]uint32{9, 5, 5, 5, 5, 1, 9}, 9}, // 1 and 6; 5 and 2
		{[]uint32{7, 3, 7, 3, 7, 3, 7}, 7}, // 3 and 4
		{[]uint32{1, 1, 2, 3, 3, 3}, 3},    // 2 and 4; 3 and 3
		{[]uint32{1, 1, 2, 3, 3, 3, 3}, 3}, // 2 and 5; 3 and 4
		{[]uint32{1, 1, 1, 2, 3, 3, 3}, 2}, // 3 and 4; 4 and 3
		{[]uint32{3, 3, 3, 2, 1, 1, 1}, 2}, // the same in another order
		{[]uint32{largest, 0, 0, largest}, largest},
		{[]uint32{largest, largest, 5, 0}, largest},
		{[]uint32{0, 5, largest, 0}, 5},
		{[]uint32{1 << 31, 1<<31 - 1, 1<<31 + 1}, 1 << 31},
	} {
		x, ok := scale.Middle(c.l...)
		if x != c.want || !ok {
			t.Errorf("Middle(%d) = %d, %t, want %d", c.l, x, ok, c.want)
		}
		if x, ok := middleOf(c.l); x != c.want || !ok {
			t.Errorf("the definition finds %d, %t for %d, want %d", x, ok, c.l, c.want)
		}
	}
}

// 15.4: no numbers, one, and equal ones have no middle.
func TestMiddleOfNone(t *testing.T) {
	wantNoMiddle(t)
	for _, x := range []uint32{0, 1, 9, 1 << 31, largest} {
		var l []uint32
		for range 20 {
			l = append(l, x)
			wantNoMiddle(t, l...)
		}
	}
	wantNoMiddle(t, []uint32{}...)
}

// wantNoMiddle checks that numbers have no middle.
func wantNoMiddle(t *testing.T, l ...uint32) {
	t.Helper()
	if x, ok := scale.Middle(l...); x != 0 || ok {
		t.Errorf("Middle(%d) = %d, %t", l, x, ok)
	}
}

// wantMiddle checks the middle of numbers against the definition.
func wantMiddle(t *testing.T, l []uint32) {
	t.Helper()
	want, found := middleOf(l)
	if x, ok := scale.Middle(l...); x != want || ok != found {
		t.Errorf("Middle(%d) = %d, %t, want %d, %t", l, x, ok, want, found)
	}
}

// 15.4: all lists of at most six numbers from 0 to 3, in every order.
func TestMiddleSmall(t *testing.T) {
	var walk func(l []uint32)
	walk = func(l []uint32) {
		wantMiddle(t, l)
		if len(l) == 6 {
			return
		}
		for x := range uint32(4) {
			walk(slices.Concat(l, []uint32{x}))
		}
	}
	walk(nil)
}

// 15.4: random lists, with and without repetitions, of small and of large numbers.
func TestMiddleRandom(t *testing.T) {
	next := noise(15)
	for range 2000 {
		n := int(next() % 24)
		span := []uint64{2, 3, 5, 9, 30, 1 << 32}[next()%6]
		base := []uint64{0, 1, 1<<32 - span}[next()%3]
		if base+span > 1<<32 {
			base = 0
		}
		var l []uint32
		for range n {
			l = append(l, uint32(base+next()%span))
		}
		wantMiddle(t, l)
	}
}

// 15.4: many numbers.
func TestMiddleOfMany(t *testing.T) {
	const n = 100000
	var l []uint32
	for i := range uint32(n) {
		l = append(l, i*7919%n) // each number below n, in another order
	}
	if x, ok := scale.Middle(l...); x != n/2 || !ok {
		t.Errorf("the middle of all numbers below %d is %d, %t", n, x, ok)
	}
}

// 15.4, R3: Middle does not change the numbers, nor look behind them.
func TestMiddleMemory(t *testing.T) {
	memory := []uint32{9, 5, 1, 9, 0, 77, 0}
	if x, ok := scale.Middle(memory[:4]...); x != 9 || !ok {
		t.Errorf("the middle is %d, %t", x, ok)
	}
	if !slices.Equal(memory, []uint32{9, 5, 1, 9, 0, 77, 0}) {
		t.Errorf("Middle left %d", memory)
	}
	equal := []uint32{4, 4, 4, 1}
	if x, ok := scale.Middle(equal[:3]...); x != 0 || ok {
		t.Errorf("the middle is %d, %t", x, ok)
	}
}

// 15.4: the middle of the attributes of a scale's interval cuts it, with at least one number on either side.
func TestMiddleCuts(t *testing.T) {
	next := noise(4)
	for range 300 {
		var l []uint32
		for range 2 + next()%9 {
			l = append(l, uint32(next()%12))
		}
		x, ok := scale.Middle(l...)
		if !ok {
			continue
		}
		s, i, code := scale.Scale{}.Cut(x)
		if i != 0 || code != api.OK {
			t.Fatalf("Cut(%d) = %d, %d", x, i, code)
		}
		sides := [2]int{}
		for _, y := range l {
			sides[s.At(y)]++
		}
		if sides[0] == 0 || sides[1] == 0 {
			t.Errorf("cut at %d, %d lie on the sides as %d", x, l, sides)
		}
	}
}

// wantDivided checks that each number lies in exactly one interval, in the one that At returns, and that the intervals cover all numbers.
func wantDivided(t *testing.T, s scale.Scale) {
	t.Helper()
	after := uint64(0) // the numbers below it are covered
	for i := range s.Len() {
		least, most := s.Ends(i)
		if uint64(least) != after || most < least {
			t.Fatalf("cuts %d: interval %d is from %d to %d", s.Cuts(), i, least, most)
		}
		if s.At(least) != i || s.At(most) != i || s.At(least+(most-least)/2) != i {
			t.Errorf("cuts %d: the numbers of interval %d lie elsewhere", s.Cuts(), i)
		}
		after = uint64(most) + 1
	}
	if after != 1<<32 {
		t.Errorf("cuts %d: the intervals end ahead of %d", s.Cuts(), after)
	}
	for _, x := range beside(s.Cuts()) {
		var in []int
		for i := -2; i < s.Len()+2; i++ {
			if least, most := s.Ends(i); least <= x && x <= most {
				in = append(in, i)
			}
		}
		if len(in) != 1 || in[0] != s.At(x) {
			t.Errorf("cuts %d: %d lies in the intervals %d, At is %d", s.Cuts(), x, in, s.At(x))
		}
	}
}

// 15.5: each number lies in exactly one interval.
func TestIntervalsDivideNumbers(t *testing.T) {
	wantDivided(t, scale.Scale{})
	for _, cuts := range cutLists() {
		wantDivided(t, of(t, cuts...))
	}
	tooMany, _ := scale.Of(1, 2, 3, 4, 5, 6, 7, 8)
	wantDivided(t, tooMany)
	falling, _ := scale.Of(1, 3, 2)
	wantDivided(t, falling)
}

// 15.1 to 15.3, 15.5: random cuts against a sorted list.
func TestAgainstModel(t *testing.T) {
	next := noise(1)
	for range 400 {
		span := []uint64{4, 9, 20, 1000, 1 << 32}[next()%5]
		base := []uint64{0, 1<<32 - span}[next()%2]
		var model []uint32
		s := scale.Scale{}
		for range 14 {
			at := uint32(base + next()%span)
			want := api.OK
			i := countUpTo(model, at)
			switch {
			case at == 0 || slices.Contains(model, at):
				want, i = api.ErrTwice, 0
			case len(model) == scale.MaxCuts:
				want, i = api.ErrFull, 0
			default:
				model = append(model, at)
				slices.Sort(model)
			}
			u, got, code := s.Cut(at)
			if got != i || code != want {
				t.Fatalf("cuts %d: Cut(%d) = %d, %d, want %d, %d", s.Cuts(), at, got, code, i, want)
			}
			s = u
			wantScale(t, s, model...)
			for range 5 {
				x := uint32(base + next()%span)
				if s.At(x) != countUpTo(model, x) {
					t.Errorf("cuts %d: At(%d) = %d", model, x, s.At(x))
				}
			}
		}
		wantDivided(t, s)
	}
}

// The chapter's example.
func TestExample(t *testing.T) {
	s, ok := scale.Of(10, 20)
	if !ok || s.At(9) != 0 || s.At(10) != 1 {
		t.Errorf("9 lies in interval %d, 10 in interval %d", s.At(9), s.At(10))
	}
	if x, ok := scale.Middle(5, 1, 9, 9); x != 9 || !ok {
		t.Errorf("the middle is %d, %t", x, ok)
	}
}
