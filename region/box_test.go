package region_test

import (
	"math"
	"testing"

	"counterpane/region"
)

// box returns the box from column x0 and row y0 on, ahead of column x1 and row y1.
func box(x0, y0, x1, y1 int) region.Box {
	return region.Box{X0: x0, Y0: y0, X1: x1, Y1: y1}
}

// rightBoxes returns all boxes that lie within the 8 by 8 cells.
func rightBoxes() []region.Box {
	var l []region.Box
	for x0 := range 8 {
		for x1 := x0 + 1; x1 <= 8; x1++ {
			for y0 := range 8 {
				for y1 := y0 + 1; y1 <= 8; y1++ {
					l = append(l, box(x0, y0, x1, y1))
				}
			}
		}
	}
	return l
}

// cell returns a set of the 64 cells with the one in column x and row y alone.
func cell(x, y int) uint64 {
	return 1 << (8*y + x)
}

// cellsOf returns the set of the cells of a box that is right.
func cellsOf(b region.Box) uint64 {
	var set uint64
	for y := b.Y0; y < b.Y1; y++ {
		for x := b.X0; x < b.X1; x++ {
			set |= cell(x, y)
		}
	}
	return set
}

// wrongBoxes returns boxes that are not right, by what is wrong with them.
func wrongBoxes() map[string]region.Box {
	return map[string]region.Box{
		"the zero box":                           {},
		"no columns":                             box(3, 2, 3, 5),
		"no rows":                                box(2, 3, 5, 3),
		"no columns, at the end":                 box(8, 0, 8, 8),
		"no rows, at the end":                    box(0, 8, 8, 8),
		"nothing, at the end":                    box(8, 8, 8, 8),
		"columns the wrong way round":            box(5, 0, 2, 3),
		"rows the wrong way round":               box(0, 5, 3, 2),
		"both the wrong way round":               box(5, 5, 2, 2),
		"a column too small":                     box(-1, 0, 3, 3),
		"a row too small":                        box(0, -1, 3, 3),
		"a column and a row too small":           box(-1, -1, 1, 1),
		"columns too small alone":                box(-3, 0, -1, 3),
		"rows too small alone":                   box(0, -3, 3, -1),
		"columns that end at 0":                  box(-2, 0, 0, 3),
		"rows that end at 0":                     box(0, -2, 3, 0),
		"a column too large":                     box(0, 0, 9, 8),
		"a row too large":                        box(0, 0, 8, 9),
		"a column too large alone":               box(8, 0, 9, 8),
		"a row too large alone":                  box(0, 8, 8, 9),
		"a column too small, one too large":      box(-1, 0, 9, 8),
		"a row too small, one too large":         box(0, -1, 8, 9),
		"the smallest column":                    box(math.MinInt, 0, 1, 1),
		"the smallest row":                       box(0, math.MinInt, 1, 1),
		"the largest column":                     box(0, 0, math.MaxInt, 1),
		"the largest row":                        box(0, 0, 1, math.MaxInt),
		"the largest columns, reversed":          box(math.MaxInt, 0, math.MinInt, 1),
		"the largest rows, reversed":             box(0, math.MaxInt, 1, math.MinInt),
		"everything":                             box(math.MinInt, math.MinInt, math.MaxInt, math.MaxInt),
		"a column that is 0 in a byte":           box(256, 0, 257, 1),
		"a column that is 0 in four bytes":       box(1<<32, 0, 1<<32+1, 1),
		"a row that is 0 in four bytes":          box(0, 1<<32, 1, 1<<32+1),
		"columns, rows that are 8 in four bytes": box(0, 0, 8+1<<32, 8+1<<32),
	}
}

// 16.1: the constants of the chapter.
func TestConstants(t *testing.T) {
	if region.Cap != 8 || region.MaxChain != 6 || region.Side != 8 {
		t.Error("a constant is wrong")
	}
}

// 16.1: every box that lies within the 8 by 8 cells is right.
func TestRight(t *testing.T) {
	l := rightBoxes()
	if len(l) != 36*36 {
		t.Fatalf("%d boxes", len(l))
	}
	for _, b := range l {
		if !b.Right() {
			t.Errorf("%v is not right", b)
		}
	}
}

// 16.1: no other box is right.
func TestNotRight(t *testing.T) {
	for name, b := range wrongBoxes() {
		if b.Right() {
			t.Errorf("%s: %v is right", name, b)
		}
	}
}

// 16.1: all boxes around the 8 by 8 cells: the right ones have a cell, and no column or row that does not exist.
func TestRightAround(t *testing.T) {
	const from, to = -2, 10
	for x0 := from; x0 <= to; x0++ {
		for x1 := from; x1 <= to; x1++ {
			for y0 := from; y0 <= to; y0++ {
				for y1 := from; y1 <= to; y1++ {
					want := x1-x0 >= 1 && y1-y0 >= 1 && x0 > -1 && y0 > -1 && x1-1 < 8 && y1-1 < 8
					if b := box(x0, y0, x1, y1); b.Right() != want {
						t.Fatalf("Right of %v is %v", b, !want)
					}
				}
			}
		}
	}
}

// 16.1: the cells at each corner of a box belong to it, those beside it do not.
func TestHasCorners(t *testing.T) {
	b := box(2, 3, 5, 7)
	for _, c := range []struct {
		x, y int
		want bool
	}{
		{2, 3, true}, {4, 3, true}, {2, 6, true}, {4, 6, true}, {3, 5, true},
		{1, 3, false}, {1, 6, false}, {5, 3, false}, {5, 6, false},
		{2, 2, false}, {4, 2, false}, {2, 7, false}, {4, 7, false},
		{1, 2, false}, {5, 2, false}, {1, 7, false}, {5, 7, false},
		{3, 2, false}, {3, 4, true}, {0, 0, false}, {7, 7, false},
		{-1, 3, false}, {2, -1, false}, {-1, -1, false}, {8, 3, false}, {2, 8, false},
		{math.MinInt, 3, false}, {math.MaxInt, 3, false}, {2, math.MinInt, false}, {2, math.MaxInt, false},
		{2 + 1<<32, 3, false}, {2, 3 + 1<<32, false}, {2 + 256, 3, false},
	} {
		if got := b.Has(c.x, c.y); got != c.want {
			t.Errorf("%v has column %d, row %d: %v", b, c.x, c.y, got)
		}
	}
}

// 16.1: each box has exactly the cells in its columns and rows, none of them outside the 8 by 8.
func TestHas(t *testing.T) {
	for _, b := range rightBoxes() {
		set := cellsOf(b)
		for x := -1; x <= 8; x++ {
			for y := -1; y <= 8; y++ {
				want := x >= 0 && x < 8 && y >= 0 && y < 8 && set&cell(x, y) != 0
				if b.Has(x, y) != want {
					t.Fatalf("%v has column %d, row %d: %v", b, x, y, !want)
				}
			}
		}
	}
}

// 16.1: a box without columns or rows contains no cell.
func TestHasNothing(t *testing.T) {
	for _, b := range []region.Box{{}, box(3, 2, 3, 5), box(2, 3, 5, 3), box(5, 0, 2, 3), box(0, 5, 3, 2), box(5, 5, 2, 2), box(8, 8, 8, 8)} {
		for x := -1; x <= 8; x++ {
			for y := -1; y <= 8; y++ {
				if b.Has(x, y) {
					t.Errorf("%v has column %d, row %d", b, x, y)
				}
			}
		}
	}
}

// 16.1: boxes of one cell, of one row, of one column and of all cells.
func TestCells(t *testing.T) {
	for b, want := range map[region.Box]int{
		box(0, 0, 1, 1): 1,
		box(7, 7, 8, 8): 1,
		box(3, 6, 4, 7): 1,
		box(0, 0, 8, 1): 8,
		box(0, 7, 8, 8): 8,
		box(2, 4, 5, 5): 3,
		box(0, 0, 1, 8): 8,
		box(7, 0, 8, 8): 8,
		box(4, 1, 5, 7): 6,
		box(1, 2, 4, 7): 15,
		box(0, 0, 8, 7): 56,
		box(1, 0, 8, 8): 56,
		box(0, 0, 8, 8): 64,
	} {
		if got := b.Cells(); got != want {
			t.Errorf("%v has %d cells, want %d", b, got, want)
		}
	}
}

// 16.1: a box has as many cells as Has counts.
func TestCellsAreCounted(t *testing.T) {
	for _, b := range rightBoxes() {
		n := 0
		for x := range 8 {
			for y := range 8 {
				if b.Has(x, y) {
					n++
				}
			}
		}
		if b.Cells() != n {
			t.Errorf("%v has %d cells, want %d", b, b.Cells(), n)
		}
	}
}

// wantJoin checks that two boxes are joined to this one, in both orders.
func wantJoin(t *testing.T, name string, a, b, want region.Box) {
	t.Helper()
	for _, l := range [][2]region.Box{{a, b}, {b, a}} {
		if got, ok := region.Join(l[0], l[1]); !ok || got != want {
			t.Errorf("%s: Join(%v, %v) = %v, %v, want %v", name, l[0], l[1], got, ok, want)
		}
	}
}

// wantApart checks that two boxes are not joined, in either order.
func wantApart(t *testing.T, name string, a, b region.Box) {
	t.Helper()
	for _, l := range [][2]region.Box{{a, b}, {b, a}} {
		if got, ok := region.Join(l[0], l[1]); ok || got != (region.Box{}) {
			t.Errorf("%s: Join(%v, %v) = %v, %v", name, l[0], l[1], got, ok)
		}
	}
}

// 16.2: boxes side by side, and one above the other.
func TestJoin(t *testing.T) {
	wantJoin(t, "one cell each, side by side", box(0, 0, 1, 1), box(1, 0, 2, 1), box(0, 0, 2, 1))
	wantJoin(t, "one cell each, one above the other", box(0, 0, 1, 1), box(0, 1, 1, 2), box(0, 0, 1, 2))
	wantJoin(t, "side by side", box(2, 3, 4, 7), box(4, 3, 7, 7), box(2, 3, 7, 7))
	wantJoin(t, "one above the other", box(3, 2, 7, 4), box(3, 4, 7, 7), box(3, 2, 7, 7))
	wantJoin(t, "all cells, cut between columns", box(0, 0, 3, 8), box(3, 0, 8, 8), box(0, 0, 8, 8))
	wantJoin(t, "all cells, cut between rows", box(0, 0, 8, 7), box(0, 7, 8, 8), box(0, 0, 8, 8))
}

// 16.2: boxes that do not make up a box.
func TestJoinApart(t *testing.T) {
	wantApart(t, "a part of a side, which is longer below", box(0, 0, 2, 2), box(2, 0, 4, 3))
	wantApart(t, "a part of a side, which begins further on", box(0, 0, 2, 3), box(2, 1, 4, 3))
	wantApart(t, "a part of both sides", box(0, 0, 2, 3), box(2, 1, 4, 4))
	wantApart(t, "the middle of a side", box(0, 0, 2, 5), box(2, 1, 4, 4))
	wantApart(t, "a part of a side, one above the other", box(0, 0, 2, 2), box(0, 2, 3, 4))
	wantApart(t, "a part of both sides, one above the other", box(0, 0, 3, 2), box(1, 2, 4, 4))
	wantApart(t, "equally many cells, shifted by a row", box(0, 0, 2, 2), box(2, 1, 4, 3))
	wantApart(t, "a corner", box(0, 0, 2, 2), box(2, 2, 4, 4))
	wantApart(t, "the other corner", box(2, 0, 4, 2), box(0, 2, 2, 4))
	wantApart(t, "a gap of a column", box(0, 0, 2, 2), box(3, 0, 5, 2))
	wantApart(t, "a gap of a row", box(0, 0, 2, 2), box(0, 3, 2, 5))
	wantApart(t, "a gap in both directions", box(0, 0, 2, 2), box(4, 4, 6, 6))
	wantApart(t, "far from each other", box(0, 0, 1, 1), box(7, 7, 8, 8))
}

// 16.2: boxes with a common cell.
func TestJoinCommon(t *testing.T) {
	wantApart(t, "equal", box(1, 1, 3, 3), box(1, 1, 3, 3))
	wantApart(t, "equal, one cell", box(4, 4, 5, 5), box(4, 4, 5, 5))
	wantApart(t, "all cells, twice", box(0, 0, 8, 8), box(0, 0, 8, 8))
	wantApart(t, "a common column, of a box together", box(0, 0, 3, 2), box(2, 0, 5, 2))
	wantApart(t, "a common row, of a box together", box(0, 0, 2, 3), box(0, 2, 2, 5))
	wantApart(t, "within", box(0, 0, 8, 8), box(3, 3, 5, 5))
	wantApart(t, "within, at the edge", box(0, 0, 4, 2), box(2, 0, 4, 2))
	wantApart(t, "a common corner", box(0, 0, 3, 3), box(2, 2, 5, 5))
	wantApart(t, "as many cells as the box around both, a common one and a gap", box(0, 0, 3, 2), box(2, 0, 3, 3))
	wantApart(t, "crossed", box(3, 0, 5, 8), box(0, 3, 8, 5))
}

// 16.2: boxes that are not right are joined with none, though their columns and rows fit.
func TestJoinNotRight(t *testing.T) {
	for name, b := range wrongBoxes() {
		for _, other := range rightBoxes() {
			wantApart(t, name, b, other)
		}
		for _, other := range wrongBoxes() {
			wantApart(t, name, b, other)
		}
	}
	wantApart(t, "a column too small", box(-1, 0, 0, 1), box(0, 0, 1, 1))
	wantApart(t, "a row too small", box(0, -1, 1, 0), box(0, 0, 1, 1))
	wantApart(t, "a column too large", box(7, 0, 8, 1), box(8, 0, 9, 1))
	wantApart(t, "a row too large", box(0, 7, 1, 8), box(0, 8, 1, 9))
	wantApart(t, "no columns, at the end of the other one", box(0, 0, 3, 2), box(3, 0, 3, 2))
	wantApart(t, "no columns, at the beginning of the other one", box(3, 0, 5, 2), box(3, 0, 3, 2))
	wantApart(t, "no rows, at the end of the other one", box(0, 0, 3, 2), box(0, 2, 3, 2))
	wantApart(t, "reversed, back to the beginning", box(0, 0, 5, 2), box(5, 0, 2, 2))
}

// 16.2: for all pairs of boxes within the 8 by 8 cells, there is a joined box if and only if their cells, which must be different ones, are those of a box.
func TestJoinAllPairs(t *testing.T) {
	boxes := rightBoxes()
	byCells := map[uint64]region.Box{}
	for _, b := range boxes {
		byCells[cellsOf(b)] = b
	}
	joined := 0
	for _, a := range boxes {
		for _, b := range boxes {
			one, two := cellsOf(a), cellsOf(b)
			want, ok := byCells[one|two]
			if one&two != 0 {
				want, ok = region.Box{}, false
			}
			if got, gotOK := region.Join(a, b); gotOK != ok || got != want {
				t.Fatalf("Join(%v, %v) = %v, %v, want %v, %v", a, b, got, gotOK, want, ok)
			}
			if ok {
				joined++
			}
		}
	}
	if joined != 2*2*84*36 { // two orders, two directions; two neighbouring intervals of eight columns or rows, and an interval across
		t.Errorf("%d pairs are joined", joined)
	}
}

// 16.2: more columns than rows, as many, fewer; odd and even numbers of them.
func TestHalves(t *testing.T) {
	for _, c := range []struct{ b, low, high region.Box }{
		{box(0, 0, 3, 1), box(0, 0, 1, 1), box(1, 0, 3, 1)}, // the chapter's example
		{box(0, 0, 2, 1), box(0, 0, 1, 1), box(1, 0, 2, 1)},
		{box(0, 0, 1, 2), box(0, 0, 1, 1), box(0, 1, 1, 2)},
		{box(0, 0, 1, 3), box(0, 0, 1, 1), box(0, 1, 1, 3)},
		{box(0, 0, 2, 2), box(0, 0, 1, 2), box(1, 0, 2, 2)},
		{box(5, 5, 8, 8), box(5, 5, 6, 8), box(6, 5, 8, 8)},
		{box(0, 0, 8, 8), box(0, 0, 4, 8), box(4, 0, 8, 8)},
		{box(1, 2, 8, 8), box(1, 2, 4, 8), box(4, 2, 8, 8)},
		{box(2, 1, 8, 8), box(2, 1, 8, 4), box(2, 4, 8, 8)},
		{box(3, 4, 7, 7), box(3, 4, 5, 7), box(5, 4, 7, 7)},
		{box(4, 3, 7, 7), box(4, 3, 7, 5), box(4, 5, 7, 7)},
		{box(0, 7, 5, 8), box(0, 7, 2, 8), box(2, 7, 5, 8)},
		{box(7, 0, 8, 5), box(7, 0, 8, 2), box(7, 2, 8, 5)},
		{box(0, 0, 7, 8), box(0, 0, 7, 4), box(0, 4, 7, 8)},
		{box(0, 0, 8, 7), box(0, 0, 4, 7), box(4, 0, 8, 7)},
	} {
		low, high, ok := c.b.Halves()
		if !ok || low != c.low || high != c.high {
			t.Errorf("Halves of %v: %v, %v, %v, want %v, %v", c.b, low, high, ok, c.low, c.high)
		}
	}
}

// 16.2: a box of one cell, wherever it is, is returned twice.
func TestHalvesOneCell(t *testing.T) {
	for x := range 8 {
		for y := range 8 {
			b := box(x, y, x+1, y+1)
			if low, high, ok := b.Halves(); ok || low != b || high != b {
				t.Errorf("Halves of %v: %v, %v, %v", b, low, high, ok)
			}
		}
	}
}

// 16.2: the halves of every box are right, have no common cell, and make up the box; the longer side is divided, and the first half is not the larger one.
func TestHalvesAllBoxes(t *testing.T) {
	for _, b := range rightBoxes() {
		low, high, ok := b.Halves()
		if b.Cells() == 1 {
			continue
		}
		if !ok || !low.Right() || !high.Right() || cellsOf(low)&cellsOf(high) != 0 || cellsOf(low)|cellsOf(high) != cellsOf(b) {
			t.Fatalf("Halves of %v: %v, %v, %v", b, low, high, ok)
		}
		wantJoin(t, "halves", low, high, b)
		columns, rows := b.X1-b.X0, b.Y1-b.Y0
		across := columns >= rows
		if across != (low.X1 == high.X0) || across == (low.Y1 == high.Y0) {
			t.Errorf("Halves of %v: %v, %v: the wrong side is divided", b, low, high)
		}
		most := max(columns, rows)
		if low.Cells() != b.Cells()/most*(most/2) {
			t.Errorf("Halves of %v: the first one is %v", b, low)
		}
	}
}

// P0: what the chapter says nothing of returns, too.
func TestWrongBoxesReturn(t *testing.T) {
	for _, b := range wrongBoxes() {
		b.Halves()
		b.Cells()
		b.Has(0, 0)
	}
}
