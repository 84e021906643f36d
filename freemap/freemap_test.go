package freemap_test

import (
	"math"
	"slices"
	"testing"

	"counterpane/api"
	"counterpane/freemap"
)

// lengths returns numbers of pages: the limits, and those around the borders of bytes and words.
func lengths() []int {
	return []int{1, 2, 7, 8, 9, 31, 32, 33, 63, 64, 65, 70, 100, 119, 120}
}

// badLengths returns numbers of pages that no map has.
func badLengths() []int {
	return []int{0, -1, -2, -120, 121, 122, 127, 128, 129, 240, 256, 257, 1 << 32, 1<<32 + 1, -1<<32 + 1, math.MinInt, math.MinInt + 1, math.MaxInt - 1, math.MaxInt}
}

// strangers returns pages that a map of n pages does not have, among them such as share bits of a word with existing ones.
func strangers(n int) []int {
	l := []int{-1, -2, -63, -64, -65, -120, -128, -n, math.MinInt, math.MinInt + 1, math.MinInt + 64, math.MaxInt, math.MaxInt - 1, math.MaxInt - 63, 1 << 32, 1<<32 + 1, -1 << 32, 256, 257, 1 << 16}
	for i := n; i < n+140; i++ {
		l = append(l, i)
	}
	return l
}

// fresh returns a map of n free pages.
func fresh(t *testing.T, n int) freemap.Map {
	t.Helper()
	m, code := freemap.New(n)
	if code != api.OK {
		t.Fatalf("New(%d): code %d", n, code)
	}
	return m
}

// of returns the map of n pages in which those of l are taken.
func of(t *testing.T, n int, l ...int) freemap.Map {
	t.Helper()
	m, ok := freemap.Of(n, l)
	if !ok {
		t.Fatalf("Of(%d, %v) is no map", n, l)
	}
	return m
}

// full returns a map of n pages, all of them taken.
func full(t *testing.T, n int) freemap.Map {
	t.Helper()
	return of(t, n, numbers(n)...)
}

// numbers returns the numbers below n.
func numbers(n int) []int {
	var l []int
	for i := range n {
		l = append(l, i)
	}
	return l
}

// wantMap wants a map of n pages in which exactly those of l are taken, whichever function is asked.
func wantMap(t *testing.T, m freemap.Map, n int, l ...int) {
	t.Helper()
	if m.Len() != n {
		t.Fatalf("Len = %d, want %d", m.Len(), n)
	}
	if got := slices.Collect(m.All()); !slices.Equal(got, l) {
		t.Fatalf("All of %d pages = %v, want %v", n, got, l)
	}
	first := -1
	for i := n - 1; i >= 0; i-- {
		if m.Taken(i) != slices.Contains(l, i) {
			t.Fatalf("Taken(%d) of %d pages = %v", i, n, m.Taken(i))
		}
		if !slices.Contains(l, i) {
			first = i
		}
	}
	if m.Free() != n-len(l) {
		t.Fatalf("Free = %d, want %d", m.Free(), n-len(l))
	}
	if m.First() != first {
		t.Fatalf("First = %d, want %d", m.First(), first)
	}
}

// wantSet sets a page and returns the map.
func wantSet(t *testing.T, m freemap.Map, i int, taken, change bool) freemap.Map {
	t.Helper()
	got, changed := m.Set(i, taken)
	if changed != change {
		t.Fatalf("Set(%d, %v) tells %v", i, taken, changed)
	}
	if !change && got != m {
		t.Fatalf("Set(%d, %v) without a change is another map", i, taken)
	}
	if change && got == m {
		t.Fatalf("Set(%d, %v) with a change is the same map", i, taken)
	}
	return got
}

// wantTake takes as many pages as l has, and returns the map.
func wantTake(t *testing.T, m freemap.Map, l ...int) freemap.Map {
	t.Helper()
	got, pages, code := m.Take(len(l))
	if code != api.OK || !slices.Equal(pages, l) {
		t.Fatalf("Take(%d) = %v, %d, want %v", len(l), pages, code, l)
	}
	return got
}

// wantNoTake wants the map itself and no pages beside a code.
func wantNoTake(t *testing.T, m freemap.Map, n int, want api.Code) {
	t.Helper()
	got, l, code := m.Take(n)
	if got != m || len(l) != 0 || code != want {
		t.Fatalf("Take(%d) = %v, %v, %d, want the code %d", n, got, l, code, want)
	}
}

func wantNoOf(t *testing.T, n int, l ...int) {
	t.Helper()
	if m, ok := freemap.Of(n, l); m != (freemap.Map{}) || ok {
		t.Fatalf("Of(%d, %v) = %v, %v, want no map", n, l, m, ok)
	}
}

// 7.1: the limit.
func TestMaxPages(t *testing.T) {
	if freemap.MaxPages != 120 {
		t.Errorf("MaxPages = %d", freemap.MaxPages)
	}
}

// 7.1: every number of pages that is allowed.
func TestNew(t *testing.T) {
	for n := 1; n <= 120; n++ {
		wantMap(t, fresh(t, n), n)
	}
}

// 7.1 and R2: the zero map beside the code.
func TestNewOutOfRange(t *testing.T) {
	for _, n := range badLengths() {
		if m, code := freemap.New(n); m != (freemap.Map{}) || code != api.ErrRange {
			t.Errorf("New(%d) = %v, %d, want ErrRange", n, m, code)
		}
	}
}

// 7.1 and 7.2: the zero map has no page.
func TestZeroMap(t *testing.T) {
	var m freemap.Map
	wantMap(t, m, 0)
	for _, i := range strangers(0) {
		if m.Taken(i) {
			t.Errorf("page %d of the zero map is taken", i)
		}
		wantSet(t, m, i, true, false)
		wantSet(t, m, i, false, false)
	}
	if wantTake(t, m) != m {
		t.Error("Take(0) of the zero map is another map")
	}
	wantNoTake(t, m, 1, api.ErrFull)
	wantNoTake(t, m, math.MaxInt, api.ErrFull)
	wantNoTake(t, m, -1, api.ErrArg)
}

// 7.1 and 7.4: maps of different numbers of pages differ, also if the same pages are taken.
func TestDifferentLengths(t *testing.T) {
	for a := 1; a <= 120; a++ {
		for b := 1; b <= 120; b++ {
			if (fresh(t, a) == fresh(t, b)) != (a == b) {
				t.Fatalf("maps of %d and %d free pages", a, b)
			}
			if a != b && of(t, a, 0) == of(t, b, 0) {
				t.Fatalf("maps of %d and %d pages, of which the first is taken", a, b)
			}
			if a != b && full(t, a) == full(t, b) {
				t.Fatalf("maps of %d and %d taken pages", a, b)
			}
		}
		if fresh(t, a) == (freemap.Map{}) {
			t.Fatalf("the map of %d free pages is the zero map", a)
		}
	}
}

// 7.1 and 7.4: maps that differ in one page alone.
func TestDifferInOnePage(t *testing.T) {
	for _, n := range lengths() {
		some := fresh(t, n)
		for i := 0; i < n; i += 3 {
			some = wantSet(t, some, i, true, true)
		}
		for _, m := range []freemap.Map{fresh(t, n), full(t, n), some} {
			seen := map[freemap.Map]int{m: -1}
			for i := range n {
				other := wantSet(t, m, i, !m.Taken(i), true)
				if j, found := seen[other]; found {
					t.Fatalf("the maps of %d pages that differ in page %d and in %d are equal", n, i, j)
				}
				seen[other] = i
				if wantSet(t, other, i, m.Taken(i), true) != m {
					t.Fatalf("page %d of %d is as it was, and the map is not", i, n)
				}
			}
		}
	}
}

// 7.1 and 7.4: the same pages, taken in different ways.
func TestEqualHoweverMade(t *testing.T) {
	want := of(t, 70, 0, 1, 2, 65)
	taken := wantTake(t, wantSet(t, fresh(t, 70), 65, true, true), 0, 1, 2)
	freed := full(t, 70)
	for i := 69; i >= 0; i-- {
		if i > 2 && i != 65 {
			freed = wantSet(t, freed, i, false, true)
		}
	}
	again := want
	for _, i := range []int{69, 3, 64, 40} {
		again = wantSet(t, again, i, true, true)
	}
	for _, i := range []int{3, 69, 40, 64} {
		again = wantSet(t, again, i, false, true)
	}
	backwards := of(t, 70, 65, 2, 1, 0)
	for i, m := range []freemap.Map{taken, freed, again, backwards} {
		wantMap(t, m, 70, 0, 1, 2, 65)
		if m != want {
			t.Errorf("map %d is not equal to the others", i)
		}
	}
}

// 7.1 and P6: all maps of a few pages, each compared with each.
func TestAllSmallMaps(t *testing.T) {
	type made struct {
		n, set int
	}
	seen := map[freemap.Map]made{{}: {}}
	for n := 1; n <= 9; n++ {
		for set := range 1 << n {
			var l []int
			for i := range n {
				if set>>i&1 == 1 {
					l = append(l, i)
				}
			}
			m := of(t, n, l...)
			wantMap(t, m, n, l...)
			if other, found := seen[m]; found {
				t.Fatalf("the maps %v and %v are equal", made{n, set}, other)
			}
			seen[m] = made{n, set}
		}
	}
}

// 7.2: every page, taken and freed, and taken and freed once more.
func TestSetEveryPage(t *testing.T) {
	for _, n := range lengths() {
		for i := range n {
			m := fresh(t, n)
			wantSet(t, m, i, false, false)
			one := wantSet(t, m, i, true, true)
			wantMap(t, one, n, i)
			wantSet(t, one, i, true, false)
			none := wantSet(t, one, i, false, true)
			wantMap(t, none, n)
			wantSet(t, none, i, false, false)
			wantMap(t, m, n)
		}
	}
}

// 7.2: pages that do not exist are neither taken nor can be.
func TestStrangers(t *testing.T) {
	for _, n := range lengths() {
		for _, m := range []freemap.Map{fresh(t, n), full(t, n), of(t, n, n-1), of(t, n, 0)} {
			for _, i := range strangers(n) {
				if m.Taken(i) {
					t.Fatalf("page %d of %d is taken", i, n)
				}
				wantSet(t, m, i, true, false)
				wantSet(t, m, i, false, false)
			}
		}
	}
}

// 7.2: one page is free, in each place.
func TestOnePageFree(t *testing.T) {
	for _, n := range lengths() {
		for i := range n {
			m := wantSet(t, full(t, n), i, false, true)
			wantMap(t, m, n, slices.Delete(numbers(n), i, i+1)...)
			if m.Free() != 1 || m.First() != i {
				t.Fatalf("Free, First of %d pages = %d, %d, want 1, %d", n, m.Free(), m.First(), i)
			}
		}
	}
}

// 7.2: none is free, and all are.
func TestFreeAndFirst(t *testing.T) {
	for _, n := range lengths() {
		m := full(t, n)
		if m.Free() != 0 || m.First() != -1 {
			t.Errorf("Free, First of %d taken pages = %d, %d", n, m.Free(), m.First())
		}
		m = fresh(t, n)
		if m.Free() != n || m.First() != 0 {
			t.Errorf("Free, First of %d free pages = %d, %d", n, m.Free(), m.First())
		}
	}
}

// 7.2: the first free page while the pages are taken from the first one on, and freed from the last one on.
func TestFirstMoves(t *testing.T) {
	for _, n := range lengths() {
		m := fresh(t, n)
		for i := range n {
			if m.First() != i || m.Free() != n-i {
				t.Fatalf("First, Free = %d, %d, want %d, %d", m.First(), m.Free(), i, n-i)
			}
			m = wantSet(t, m, i, true, true)
		}
		for i := n - 1; i >= 0; i-- {
			m = wantSet(t, m, i, false, true)
			if m.First() != i || m.Free() != n-i {
				t.Fatalf("First, Free = %d, %d, want %d, %d", m.First(), m.Free(), i, n-i)
			}
		}
	}
}

// 7.3: the chapter's example.
func TestTakeBesidePage65(t *testing.T) {
	m := wantSet(t, fresh(t, 70), 65, true, true)
	m = wantTake(t, m, 0, 1, 2)
	if m.Free() != 66 {
		t.Errorf("Free = %d, want 66", m.Free())
	}
	wantMap(t, m, 70, 0, 1, 2, 65)
}

// 7.3: every possible number of pages of a fresh map, and the one beyond.
func TestTakeFresh(t *testing.T) {
	for _, n := range lengths() {
		for k := range n + 1 {
			m := fresh(t, n)
			wantMap(t, wantTake(t, m, numbers(k)...), n, numbers(k)...)
			wantMap(t, m, n)
		}
		wantNoTake(t, fresh(t, n), n+1, api.ErrFull)
	}
}

// 7.3: free pages between taken ones, on both sides of the border of a word.
func TestTakeBetween(t *testing.T) {
	var odd, even []int
	for i := range 120 {
		if i%2 == 1 {
			odd = append(odd, i)
		} else {
			even = append(even, i)
		}
	}
	m := of(t, 120, odd...)
	for k := range 61 {
		want := slices.Concat(odd, even[:k])
		slices.Sort(want)
		wantMap(t, wantTake(t, m, even[:k]...), 120, want...)
	}
	wantMap(t, m, 120, odd...)
	wantNoTake(t, m, 61, api.ErrFull)
}

// 7.3: as many pages as are free, and one more, from the fresh map to the full one.
func TestTakeExactly(t *testing.T) {
	for _, n := range lengths() {
		m := fresh(t, n)
		for i := n - 1; i >= 0; i-- {
			wantNoTake(t, m, i+2, api.ErrFull)
			wantMap(t, wantTake(t, m, numbers(i+1)...), n, numbers(n)...)
			m = wantSet(t, m, i, true, true)
		}
		wantNoTake(t, m, 1, api.ErrFull)
		wantNoTake(t, m, n, api.ErrFull)
	}
}

// 7.3: no pages are always there, and the map is the same.
func TestTakeNone(t *testing.T) {
	for _, n := range lengths() {
		for _, m := range []freemap.Map{fresh(t, n), full(t, n), of(t, n, n-1)} {
			if wantTake(t, m) != m {
				t.Errorf("Take(0) of %d pages is another map", n)
			}
		}
	}
}

// 7.3: the map itself beside both codes, also where no page is free.
func TestTakeRejected(t *testing.T) {
	for _, n := range lengths() {
		for _, m := range []freemap.Map{fresh(t, n), full(t, n), of(t, n, n-1), of(t, n, 0)} {
			for _, k := range []int{-1, -2, -n, -120, -1 << 32, math.MinInt + 1, math.MinInt} {
				wantNoTake(t, m, k, api.ErrArg)
			}
			for _, k := range []int{n + 1, 121, 128, 256, 1 << 32, math.MaxInt - 1, math.MaxInt} {
				wantNoTake(t, m, k, api.ErrFull)
			}
		}
	}
}

// 7.3: one page at a time, until none is free.
func TestTakeOneByOne(t *testing.T) {
	for _, n := range lengths() {
		m := fresh(t, n)
		for i := range n {
			m = wantTake(t, m, i)
		}
		wantMap(t, m, n, numbers(n)...)
		wantNoTake(t, m, 1, api.ErrFull)
	}
}

// 7.3: ascending, however the pages were taken.
func TestAllAscending(t *testing.T) {
	m := fresh(t, 120)
	for _, i := range []int{119, 0, 64, 63, 65, 7, 100, 8} {
		m = wantSet(t, m, i, true, true)
	}
	wantMap(t, m, 120, 0, 7, 8, 63, 64, 65, 100, 119)
}

// 7.3 and P0: the caller ends the loop at every page; the iterator does not go on, and can be used again.
func TestAllEndedEarly(t *testing.T) {
	want := []int{0, 7, 63, 64, 119}
	all := of(t, 120, want...).All()
	for end := range want {
		var got []int
		all(func(i int) bool {
			got = append(got, i)
			return len(got) <= end
		})
		if !slices.Equal(got, want[:end+1]) {
			t.Errorf("ended at %d: %v", end, got)
		}
		var broken []int
		for i := range all {
			broken = append(broken, i)
			if len(broken) > end {
				break
			}
		}
		if !slices.Equal(broken, want[:end+1]) {
			t.Errorf("broken off at %d: %v", end, broken)
		}
	}
	for range 2 {
		if got := slices.Collect(all); !slices.Equal(got, want) {
			t.Errorf("All = %v", got)
		}
	}
}

// 7.3: a loop inside a loop over the same iterator.
func TestAllNested(t *testing.T) {
	all := of(t, 70, 3, 65).All()
	var got [][2]int
	for i := range all {
		for j := range all {
			got = append(got, [2]int{i, j})
		}
	}
	if !slices.Equal(got, [][2]int{{3, 3}, {3, 65}, {65, 3}, {65, 65}}) {
		t.Errorf("All within All = %v", got)
	}
}

// 7.1 and 7.3: an iterator goes through the pages of its own map, whatever happens to the variable.
func TestAllKeepsItsMap(t *testing.T) {
	m := of(t, 70, 3, 65)
	all := m.All()
	m = wantTake(t, m, 0, 1)
	if got := slices.Collect(all); !slices.Equal(got, []int{3, 65}) {
		t.Errorf("All of the earlier map = %v", got)
	}
	for i := range m.All() {
		m, _ = m.Set(i, false)
		m, _ = m.Set(69-i, true)
	}
	wantMap(t, m, 70, 4, 66, 68, 69)
}

// 7.3: no pages, one page, and all pages, in different orders.
func TestOf(t *testing.T) {
	for _, n := range lengths() {
		if of(t, n) != fresh(t, n) || of(t, n, []int{}...) != fresh(t, n) {
			t.Errorf("Of(%d) of no pages is not the map of free pages", n)
		}
		for i := range n {
			wantMap(t, of(t, n, i), n, i)
		}
		backwards := numbers(n)
		slices.Reverse(backwards)
		wantMap(t, of(t, n, backwards...), n, numbers(n)...)
		wantMap(t, of(t, n, numbers(n)...), n, numbers(n)...)
	}
}

// 7.3: a page twice, next to each other or not.
func TestOfTwice(t *testing.T) {
	for _, n := range lengths() {
		for i := range n {
			wantNoOf(t, n, i, i)
			wantNoOf(t, n, i, i, i)
			wantNoOf(t, n, append(numbers(n), i)...)
			wantNoOf(t, n, append([]int{i}, numbers(n)...)...)
		}
	}
	wantNoOf(t, 70, 65, 1, 2, 65)
}

// 7.3: a page that does not exist, at the beginning, at the end, and alone.
func TestOfStrangers(t *testing.T) {
	for _, n := range lengths() {
		for _, i := range strangers(n) {
			wantNoOf(t, n, i)
			wantNoOf(t, n, append(numbers(n), i)...)
			wantNoOf(t, n, append([]int{i}, numbers(n)...)...)
		}
	}
}

// 7.3: numbers of pages that New rejects.
func TestOfBadLengths(t *testing.T) {
	for _, n := range badLengths() {
		wantNoOf(t, n)
		wantNoOf(t, n, 0)
		wantNoOf(t, n, -1)
		wantNoOf(t, n, 0, 0)
		wantNoOf(t, n, n-1)
		wantNoOf(t, n, n)
	}
}

// 7.4: the taken pages and their number make the map again.
func TestDeterminedByPages(t *testing.T) {
	for _, n := range lengths() {
		for _, m := range []freemap.Map{fresh(t, n), full(t, n), of(t, n, n-1), of(t, n, 0)} {
			if of(t, m.Len(), slices.Collect(m.All())...) != m {
				t.Errorf("the pages of a map of %d pages make another map", n)
			}
		}
	}
}

// 7.1: no operation changes an earlier map.
func TestEarlierMapsStay(t *testing.T) {
	m := of(t, 70, 3, 65)
	same := m
	wantSet(t, m, 3, false, true)
	wantSet(t, m, 66, true, true)
	wantTake(t, m, 0, 1, 2, 4)
	for i := range m.All() {
		wantSet(t, m, i, false, true)
	}
	wantMap(t, m, 70, 3, 65)
	later := wantTake(t, m, 0, 1)
	wantMap(t, wantSet(t, later, 65, false, true), 70, 0, 1, 3)
	wantMap(t, later, 70, 0, 1, 3, 65)
	if m != same {
		t.Error("the map has changed")
	}
}

// R3: the pages that Take returns are the caller's.
func TestTakeMemory(t *testing.T) {
	m := of(t, 70, 1, 65)
	later, first, _ := m.Take(3)
	_, second, _ := m.Take(3)
	for i := range first {
		first[i] = 60 + i
	}
	_ = append(first[:1], 9, 9, 9)
	if !slices.Equal(second, []int{0, 2, 3}) {
		t.Errorf("the second result has changed to %v", second)
	}
	wantMap(t, m, 70, 1, 65)
	wantMap(t, later, 70, 0, 1, 2, 3, 65)
}

// R3: Of neither changes nor retains its pages, and does not read those behind them.
func TestOfMemory(t *testing.T) {
	l := []int{65, 3, 3, -1, 7}
	kept := slices.Clone(l)
	m := of(t, 70, l[:2]...)
	wantNoOf(t, 70, l[:3]...)
	wantNoOf(t, 70, l[2:4]...)
	wantNoOf(t, 65, l[:2]...)
	if !slices.Equal(l, kept) {
		t.Errorf("Of changed its pages to %v", l)
	}
	for i := range l {
		l[i] = 9
	}
	wantMap(t, m, 70, 3, 65)
}

// 7.1 to 7.4: many operations, against a slice of bools; every map that was seen stays what it was.
func TestAgainstModel(t *testing.T) {
	seed := uint64(1)
	random := func(n int) int {
		seed = seed*6364136223846793005 + 1442695040888963407
		return int(seed>>33) % n
	}
	for _, n := range lengths() {
		m, model := fresh(t, n), make([]bool, n)
		for range 300 {
			before, old := m, slices.Clone(model)
			if random(3) > 0 {
				i, taken := random(n+4)-2, random(2) == 0
				exists := i >= 0 && i < n
				m = wantSet(t, m, i, taken, exists && model[max(0, min(i, n-1))] != taken)
				if exists {
					model[i] = taken
				}
			} else if free := freeOf(model); random(4) > 0 && len(free) > 0 {
				k := random(min(len(free), 5) + 1)
				m = wantTake(t, m, free[:k]...)
				for _, i := range free[:k] {
					model[i] = true
				}
			} else {
				wantNoTake(t, m, len(free)+1+random(3), api.ErrFull)
			}
			wantMap(t, m, n, takenOf(model)...)
			wantMap(t, before, n, takenOf(old)...)
			if (m == before) != slices.Equal(model, old) || of(t, n, takenOf(model)...) != m {
				t.Fatal("maps are not compared by their pages")
			}
		}
	}
}

// freeOf returns the free pages of a model.
func freeOf(model []bool) []int {
	var l []int
	for i, taken := range model {
		if !taken {
			l = append(l, i)
		}
	}
	return l
}

// takenOf returns the taken pages of a model.
func takenOf(model []bool) []int {
	var l []int
	for i, taken := range model {
		if taken {
			l = append(l, i)
		}
	}
	return l
}
