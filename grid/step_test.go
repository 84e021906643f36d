package grid_test

import (
	"math"
	"slices"
	"testing"

	"counterpane/api"
	"counterpane/grid"
	"counterpane/region"
)

func wantGrow(t *testing.T, name string, g grid.Grid, x, y uint32, page int, want grid.Grid, kind int, code api.Code) {
	t.Helper()
	before := copyOf(g)
	got, gotKind, gotCode := g.Grow(x, y, page)
	if gotKind != kind || gotCode != code {
		t.Errorf("%s: Grow = kind %d, code %d, want %d, %d", name, gotKind, gotCode, kind, code)
	}
	wantGrid(t, name, got, want)
	wantGrid(t, name+", the earlier grid", g, before)
	wantSound(t, name+", the earlier grid", g)
	wantSound(t, name, got)
}

// 17.3: with Room there is nothing to do, for any page and any box.
func TestGrowRoom(t *testing.T) {
	for n := range uint64(8) {
		for _, x := range [][]uint32{nil, {10}, {10, 20}} {
			g := gridOf(x, tens(1), on(1, area{0, 0, end, 10}, pts(5, 5, 1, n)...), on(2, area{0, 10, end, end}, pts(5, 15, 20, 8)...))
			for _, page := range []int{50, 1, 0, -1, math.MinInt} {
				wantGrow(t, "a region with room", g, 7, 7, page, g, grid.Nothing, api.OK)
			}
		}
	}
	for n := uint64(40); n < 48; n++ {
		g := gridOf(nil, nil, part{area{0, 0, end, end}, numbered(30, 6), pts(5, 5, 1, n)})
		for _, page := range []int{50, 0} {
			wantGrow(t, "the longest chain with room", g, 7, 7, page, g, grid.Nothing, api.OK)
		}
	}
}

// full returns a grid with a region for each cell, where the one of the first point has all of them, and page 50.
func full(x, y []uint32, l []api.Point) []part {
	parts := each(x, y)
	for i, p := range parts {
		if p.area.has(uint64(l[0].X), uint64(l[0].Y)) {
			parts[i] = on(50, p.area, l...)
		}
	}
	return parts
}

// listed returns points with these attributes.
func listed(xs, ys []uint32) []api.Point {
	var l []api.Point
	for i := range xs {
		l = append(l, pt(xs[i], ys[i], uint64(20-i)))
	}
	return l
}

// 17.3: which scale is cut, where, and that the page does not matter.
func TestGrowRefined(t *testing.T) {
	var (
		count   = []uint32{1, 2, 3, 4, 5, 6, 7, 8}
		twos    = []uint32{2, 2, 4, 4, 6, 6, 8, 8}
		equal   = []uint32{3, 3, 3, 3, 3, 3, 3, 3}
		last    = []uint32{3, 3, 3, 3, 3, 3, 3, 9}
		first   = []uint32{9, 9, 9, 9, 2, 9, 9, 9}
		falling = []uint32{9, 8, 7, 4, 3, 2, 1, 0}
	)
	for _, c := range []struct {
		name       string
		x, y       []uint32 // where the scales are cut
		xs, ys     []uint32 // the points
		atX, atY   uint32   // the new cut; 0: not there
		ninthX     uint32   // attributes in the cell
		ninthY     uint32
		wantedKind int
	}{
		{name: "one cell", xs: count, ys: twos, atX: 5},
		{name: "as many columns as rows", x: tens(2), y: tens(2), xs: twos, ys: count, atX: 6},
		{name: "as many columns as rows, X in one point alone", x: tens(2), y: tens(2), xs: last, ys: count, atX: 9},
		{name: "as many columns as rows, one point below", x: tens(3), y: tens(3), xs: first, ys: count, atX: 9},
		{name: "fewer columns", x: tens(1), y: tens(2), xs: falling, ys: count, atX: 4},
		{name: "one column, many rows", y: tens(7), xs: count, ys: count, atX: 5},
		{name: "fewer rows", x: tens(2), y: tens(1), xs: count, ys: falling, atY: 4},
		{name: "one row, many columns", x: tens(7), xs: count, ys: count, atY: 5},
		{name: "seven columns, eight rows", x: tens(6), y: tens(7), xs: twos, ys: count, atX: 6},
		{name: "eight columns, seven rows", x: tens(7), y: tens(6), xs: count, ys: twos, atY: 6},
		{name: "equal X", xs: equal, ys: count, atY: 5},
		{name: "equal X, as many columns as rows", x: tens(6), y: tens(6), xs: equal, ys: twos, atY: 6},
		{name: "equal X, fewer columns", x: tens(2), y: tens(6), xs: equal, ys: last, atY: 9},
		{name: "equal X, fewer rows", x: tens(2), y: tens(1), xs: equal, ys: count, atY: 5},
		{name: "equal Y", xs: count, ys: equal, atX: 5},
		{name: "equal Y, fewer rows", x: tens(6), y: tens(1), xs: twos, ys: equal, atX: 6},
		{name: "equal Y, fewer columns", x: tens(1), y: tens(2), xs: twos, ys: equal, atX: 6},
	} {
		parts := full(c.x, c.y, listed(c.xs, c.ys))
		x, y := slices.Clone(c.x), slices.Clone(c.y)
		if c.atX > 0 {
			x = append([]uint32{c.atX}, x...)
		}
		if c.atY > 0 {
			y = append([]uint32{c.atY}, y...)
		}
		for _, page := range []int{60, 1, 0, -1, math.MinInt} {
			wantGrow(t, c.name, gridOf(c.x, c.y, parts...), c.ninthX, c.ninthY, page, gridOf(x, y, parts...), grid.Refined, api.OK)
		}
	}
}

// 17.3: neither scale can be cut.
func TestGrowNotRefined(t *testing.T) {
	count := []uint32{1, 2, 3, 4, 5, 6, 7, 8}
	equal := []uint32{3, 3, 3, 3, 3, 3, 3, 3}
	for _, c := range []struct {
		name   string
		x, y   []uint32
		xs, ys []uint32
	}{
		{"equal points", nil, nil, equal, equal},
		{"equal points, fewer columns", tens(2), tens(3), equal, equal},
		{"equal points, fewer rows", tens(4), tens(3), equal, equal},
		{"eight columns and rows", tens(7), tens(7), count, count},
		{"eight columns and rows, equal X", tens(7), tens(7), equal, count},
		{"eight columns and rows, equal Y", tens(7), tens(7), count, equal},
		{"eight columns, equal Y", tens(7), tens(2), count, equal},
		{"eight rows, equal X", tens(2), tens(7), equal, count},
	} {
		parts := full(c.x, c.y, listed(c.xs, c.ys))
		g := gridOf(c.x, c.y, parts...)
		for i, p := range parts {
			if p.pages[0] == 50 {
				parts[i].pages = []int{50, 60}
			}
		}
		wantGrow(t, c.name, g, 7, 7, 60, gridOf(c.x, c.y, parts...), grid.Chained, api.OK)
		for _, page := range []int{0, -1, math.MinInt} {
			wantGrow(t, c.name+", no page", g, 7, 7, page, g, grid.Nothing, api.ErrFull)
		}
	}
}

// 17.3: where Cut does not succeed, the other scale is cut; with grids that result from the functions, Cut fails only if both scales are full.
func TestGrowRefinedCutFails(t *testing.T) {
	l := listed([]uint32{0, 0, 0, 0, 10, 10, 10, 10}, []uint32{1, 2, 3, 4, 5, 6, 7, 8}) // four of them lie in another cell
	parts := []part{on(1, area{0, 0, 10, 20}, l...), on(2, area{10, 0, end, 20}), on(3, area{0, 20, end, end})}
	got, kind, code := gridOf(tens(1), []uint32{20}, parts...).Grow(0, 0, 0)
	if kind != grid.Refined || code != api.OK {
		t.Errorf("Grow = %d, %d", kind, code)
	}
	wantGrid(t, "Grow", got, gridOf(tens(1), []uint32{5, 20}, parts...))
}

// cellwise returns eight points in the cell from these attributes on: the middle of X is 4 behind them, and that of Y is 5.
func cellwise(x, y uint32) []api.Point {
	return listed([]uint32{x, x + 1, x + 2, x + 3, x + 4, x + 5, x + 6, x + 8}, []uint32{y + 8, y, y + 3, y + 2, y + 4, y + 5, y + 6, y + 7})
}

// 17.3: in whichever cell the points are, the cut is that of their cell, and every region keeps its cells.
func TestGrowRefinedAnywhere(t *testing.T) {
	for columns := 1; columns <= 8; columns++ {
		for rows := 1; rows <= 8; rows++ {
			if columns == 8 && rows == 8 {
				continue
			}
			for column := range columns {
				for row := range rows {
					x, y := tens(columns-1), tens(rows-1)
					x0, y0 := uint32(column)*10, uint32(row)*10
					parts := full(x, y, cellwise(x0, y0))
					g := gridOf(x, y, parts...)
					if columns <= rows {
						x = slices.Insert(x, column, x0+4)
					} else {
						y = slices.Insert(y, row, y0+5)
					}
					wantGrow(t, "a full cell", g, x0+9, y0, 0, gridOf(x, y, parts...), grid.Refined, api.OK)
				}
			}
		}
	}
}

// 17.3: the regions before, across and behind the cut keep their cells; that of another column counts as one.
func TestGrowRefinedKeeps(t *testing.T) {
	parts := []part{
		on(1, area{0, 0, 10, 10}),                         // before
		on(2, area{10, 0, 20, 10}, cellwise(10, 0)...),    // the one to be cut
		on(3, area{20, 0, 30, 10}, pt(25, 5, 1)),          // behind
		on(4, area{0, 10, 20, 20}),                        // it ends there
		on(5, area{20, 10, end, 30}),                      // behind
		on(6, area{0, 20, 10, 30}),                        // before
		on(7, area{10, 20, 20, 30}, pt(19, 29, 2)),        // exactly the column
		on(8, area{0, 30, end, end}, pts(1, 35, 3, 8)...), // across
		on(9, area{30, 0, end, 10}),                       // behind
	}
	x, y := tens(3), tens(3)
	g := gridOf(x, y, parts...)
	wantGrow(t, "X", g, 10, 0, 0, gridOf([]uint32{10, 14, 20, 30}, y, parts...), grid.Refined, api.OK)
	got, _, _ := g.Grow(10, 0, 0)
	if want := []int{1, 2, 2, 3, 9, 4, 4, 4, 5, 5, 6, 7, 7, 5, 5, 8, 8, 8, 8, 8}; !slices.Equal(got.Cells, want) {
		t.Errorf("Cells = %v, want %v", got.Cells, want)
	}
	for first, want := range map[int]region.Box{
		1: {X0: 0, Y0: 0, X1: 1, Y1: 1}, 2: {X0: 1, Y0: 0, X1: 3, Y1: 1}, 3: {X0: 3, Y0: 0, X1: 4, Y1: 1},
		4: {X0: 0, Y0: 1, X1: 3, Y1: 2}, 5: {X0: 3, Y0: 1, X1: 5, Y1: 3}, 6: {X0: 0, Y0: 2, X1: 1, Y1: 3},
		7: {X0: 1, Y0: 2, X1: 3, Y1: 3}, 8: {X0: 0, Y0: 3, X1: 5, Y1: 4}, 9: {X0: 4, Y0: 0, X1: 5, Y1: 1},
	} {
		if got.R[first].Box != want {
			t.Errorf("the box of %d is %v, want %v", first, got.R[first].Box, want)
		}
	}

	for i, p := range parts { // the same, with both attributes exchanged
		parts[i].area = area{p.area.y0, p.area.x0, p.area.y1, p.area.x1}
		for j, q := range p.points {
			parts[i].points[j].X, parts[i].points[j].Y = q.Y, q.X
		}
	}
	x = tens(4) // so that there are fewer rows than columns
	g = gridOf(x, y, parts...)
	wantGrow(t, "Y", g, 0, 10, 0, gridOf(x, []uint32{10, 14, 20, 30}, parts...), grid.Refined, api.OK)
	got, _, _ = g.Grow(0, 10, 0)
	if want := []int{1, 4, 6, 8, 8, 2, 4, 7, 8, 8, 2, 4, 7, 8, 8, 3, 5, 5, 8, 8, 9, 5, 5, 8, 8}; !slices.Equal(got.Cells, want) {
		t.Errorf("Cells = %v, want %v", got.Cells, want)
	}
}

// corner returns the area of so many columns and rows of tens, from these ones on, ahead of the end of the plane.
func corner(column, row, columns, rows int) area {
	return area{uint64(column) * 10, uint64(row) * 10, uint64(column+columns) * 10, uint64(row+rows) * 10}
}

// around returns regions on the pages from 101 on for all that lies outside an area.
func around(a area) []part {
	var l []part
	for _, rest := range []area{{0, 0, a.x0, end}, {a.x1, 0, end, end}, {a.x0, 0, a.x1, a.y0}, {a.x0, a.y1, a.x1, end}} {
		if rest.x0 < rest.x1 && rest.y0 < rest.y1 {
			l = append(l, on(101+len(l), rest))
		}
	}
	return l
}

// 17.3: boxes of all shapes are divided by Halves, and the points of the second half move in their order.
func TestGrowSplitShapes(t *testing.T) {
	x, y := tens(7), tens(7)
	for columns := 1; columns < 8; columns++ {
		for rows := 1; rows < 8; rows++ {
			if columns*rows == 1 {
				continue
			}
			for _, at := range [][2]int{{0, 0}, {7 - columns, 7 - rows}, {0, 7 - rows}, {(7 - columns) / 2, (7 - rows) / 2}} {
				a := corner(at[0], at[1], columns, rows)
				low, high := a, a
				if columns >= rows {
					low.x1 = a.x0 + uint64(columns/2)*10
					high.x0 = low.x1
				} else {
					low.y1 = a.y0 + uint64(rows/2)*10
					high.y0 = low.y1
				}
				var all, lows, highs []api.Point
				for i, c := range [][2]uint64{{high.x0, high.y0}, {low.x0, low.y0}, {high.x1 - 1, high.y1 - 1}, {low.x1 - 1, low.y1 - 1}, {low.x0, low.y1 - 1}, {high.x0, high.y1 - 1}, {low.x1 - 1, low.y0}, {high.x1 - 1, high.y0}} {
					p := pt(uint32(c[0]), uint32(c[1]), uint64(20-i))
					all = append(all, p)
					if high.has(c[0], c[1]) {
						highs = append(highs, p)
					} else {
						lows = append(lows, p)
					}
				}
				rest := around(a)
				g := gridOf(x, y, append(rest, on(33, a, all...))...)
				want := gridOf(x, y, append(rest, on(33, low, lows...), on(12, high, highs...))...)
				for _, p := range all {
					wantGrow(t, "a full region", g, p.X, p.Y, 12, want, grid.Split, api.OK)
				}
				for _, page := range []int{0, -1, math.MinInt} {
					wantGrow(t, "no page", g, all[0].X, all[0].Y, page, g, grid.Nothing, api.ErrFull)
				}
			}
		}
	}
}

// 17.3: whichever of the points lie in the second half, all or none of them, too.
func TestGrowSplitPoints(t *testing.T) {
	low, high, rest := area{0, 0, 10, end}, area{10, 0, 30, end}, on(5, area{30, 0, end, end})
	for moved := range 256 {
		var all, lows, highs []api.Point
		for i := range 8 {
			x := uint32(10 - 1 + moved>>i&1)
			p := pt(x, half, uint64(20-i))
			all = append(all, p)
			if x == 10 {
				highs = append(highs, p)
			} else {
				lows = append(lows, p)
			}
		}
		g := gridOf(tens(3), nil, on(33, area{0, 0, 30, end}, all...), rest)
		want := gridOf(tens(3), nil, on(33, low, lows...), on(12, high, highs...), rest)
		for _, x := range []uint32{0, 29} {
			wantGrow(t, "a full region", g, x, 0, 12, want, grid.Split, api.OK)
		}
	}
}

// 17.3: the new region is that of the page, and exactly the cells of the second half belong to it.
func TestGrowSplitCells(t *testing.T) {
	g := gridOf(tens(3), tens(1), on(9, area{0, 0, 30, end}, pts(5, 15, 1, 8)...), on(4, area{30, 0, end, end}))
	got, kind, code := g.Grow(29, 0, 77)
	if kind != grid.Split || code != api.OK || !slices.Equal(got.Cells, []int{9, 77, 77, 4, 9, 77, 77, 4}) {
		t.Errorf("Grow = %v, %d, %d", got, kind, code)
	}
	if r := got.R[9]; !sameRegion(r, region.Region{Box: region.Box{X1: 1, Y1: 2}, Pages: []int{9}, Points: pts(5, 15, 1, 8)}) {
		t.Errorf("the old region is %v", r)
	}
	if r := got.R[77]; !sameRegion(r, region.Region{Box: region.Box{X0: 1, X1: 3, Y1: 2}, Pages: []int{77}}) {
		t.Errorf("the new region is %v", r)
	}
}

// 17.3: a region of several pages gets one more, up to six, also if it has several cells, or could be refined.
func TestGrowChained(t *testing.T) {
	a := area{0, 0, end, end}
	for n := 2; n <= 6; n++ {
		for _, cuts := range [][]uint32{nil, {10}, {10, 20}} {
			pages := append([]int{90}, numbered(10, n-1)...)
			var l []api.Point
			for i := range n {
				l = append(l, pts(uint32(i), uint32(7-i), uint64(10*i), 8)...)
			}
			g := gridOf(cuts, nil, part{a, pages, l})
			for _, page := range []int{1, 5, 200} {
				if n < 6 {
					want := gridOf(cuts, nil, part{a, append(slices.Clone(pages), page), l})
					wantGrow(t, "a full chain", g, 7, 7, page, want, grid.Chained, api.OK)
				} else {
					wantGrow(t, "the longest chain", g, 7, 7, page, g, grid.Nothing, api.ErrFull)
				}
			}
			for _, page := range []int{0, -1, math.MinInt} {
				wantGrow(t, "a full chain, no page", g, 7, 7, page, g, grid.Nothing, api.ErrFull)
			}
		}
	}
}

// 17.3: it is the region of x and y that grows, not another one that is full, too.
func TestGrowOfAttributes(t *testing.T) {
	one := on(1, area{0, 0, 20, 10}, append(pts(1, 1, 1, 4), pts(11, 2, 10, 4)...)...)
	two := on(2, area{20, 0, end, 10}, cellwise(20, 0)...)
	three := part{area{0, 10, end, end}, []int{3, 4}, pts(25, 25, 30, 16)}
	x, y := tens(2), tens(1)
	g := gridOf(x, y, one, two, three)
	wantGrow(t, "the first one", g, 0, 0, 9, gridOf(x, y, on(1, area{0, 0, 10, 10}, pts(1, 1, 1, 4)...), on(9, area{10, 0, 20, 10}, pts(11, 2, 10, 4)...), two, three), grid.Split, api.OK)
	wantGrow(t, "the second one", g, math.MaxUint32, 9, 9, gridOf(x, []uint32{5, 10}, one, two, three), grid.Refined, api.OK)
	wantGrow(t, "the third one", g, 0, 10, 9, gridOf(x, y, one, two, part{three.area, []int{3, 4, 9}, three.points}), grid.Chained, api.OK)
}

func wantShrink(t *testing.T, name string, g grid.Grid, x, y uint32, want grid.Grid, kind, page int) {
	t.Helper()
	before := copyOf(g)
	got, gotKind, gotPage := g.Shrink(x, y)
	if gotKind != kind || gotPage != page {
		t.Errorf("%s: Shrink = kind %d, page %d, want %d, %d", name, gotKind, gotPage, kind, page)
	}
	wantGrid(t, name, got, want)
	wantGrid(t, name+", the earlier grid", g, before)
	wantSound(t, name+", the earlier grid", g)
	wantSound(t, name, got)
}

// 17.4: the last of several pages is removed, if the others have room for all points: a Room of exactly Cap, of more and of less.
func TestShrinkUnchain(t *testing.T) {
	a, rest := area{0, 0, 10, end}, on(101, area{10, 0, end, end})
	for n := 2; n <= 6; n++ {
		pages := append([]int{90}, numbered(10, n-1)...)
		for points := range uint64(8*n + 1) {
			l := pts(3, half, 1, points)
			g := gridOf(tens(1), nil, part{a, pages, l}, rest)
			if int(points) <= 8*(n-1) {
				wantShrink(t, "a chain", g, 9, 0, gridOf(tens(1), nil, part{a, pages[:n-1], l}, rest), grid.Unchain, pages[n-1])
			} else {
				wantShrink(t, "a full chain", g, 9, 0, g, grid.Nothing, 0)
			}
		}
	}
}

// 17.4: two small neighbours become one on the smaller page, whose points come first, from whichever side.
func TestShrinkMerged(t *testing.T) {
	middle := corner(2, 2, 2, 3)
	for name, beside := range map[string]area{
		"left":                corner(1, 2, 1, 3),
		"right":               corner(4, 2, 3, 3),
		"below":               corner(2, 0, 2, 2),
		"above":               corner(2, 5, 2, 1),
		"too high":            corner(4, 2, 1, 4),
		"too low":             corner(4, 2, 1, 2),
		"too wide":            corner(2, 5, 3, 1),
		"shifted":             corner(4, 3, 1, 3),
		"not beside":          corner(5, 2, 1, 3),
		"beside by a corner":  corner(0, 0, 2, 2),
		"by the other corner": corner(4, 5, 2, 1),
	} {
		joined := area{min(middle.x0, beside.x0), min(middle.y0, beside.y0), max(middle.x1, beside.x1), max(middle.y1, beside.y1)}
		fits := name == "left" || name == "right" || name == "below" || name == "above"
		for n := range uint64(5) {
			for m := range uint64(5) {
				a := pts(uint32(middle.x0)+1, uint32(middle.y1)-1, 30, n)
				b := pts(uint32(beside.x1)-1, uint32(beside.y0)+1, 10, m)
				for _, page := range []int{8, 80} { // the smaller and the greater one
					rest := filled(middle, beside)
					g := gridOf(tens(7), tens(7), append(rest, on(page, middle, a...), on(44, beside, b...))...)
					want, kind, left := g, grid.Nothing, 0
					if fits && n+m <= 3 {
						l := slices.Concat(a, b)
						if page > 44 {
							l = slices.Concat(b, a)
						}
						want, kind, left = gridOf(tens(7), tens(7), append(rest, on(min(page, 44), joined, l...))...), grid.Merged, max(page, 44)
					}
					wantShrink(t, name, g, uint32(middle.x0), uint32(middle.y0), want, kind, left)
					wantShrink(t, name+", from there", g, uint32(beside.x0), uint32(beside.y0), want, kind, left)
				}
			}
		}
	}
}

// filled returns a region with four points for each cell of tens outside two areas; none of them is merged with anything.
func filled(a, b area) []part {
	var l []part
	for i, p := range each(tens(7), tens(7)) {
		if !a.has(p.area.x0, p.area.y0) && !b.has(p.area.x0, p.area.y0) {
			p.points = pts(uint32(p.area.x0), uint32(p.area.y0), uint64(1000+10*i), 4)
			l = append(l, p)
		}
	}
	return l
}

// 17.4: of several neighbours, the one with the smallest first page that is fit.
func TestShrinkSmallest(t *testing.T) {
	middle := on(40, corner(1, 1, 1, 1), pt(15, 15, 1))
	beside := func() []part {
		return []part{
			on(60, corner(0, 1, 1, 1), pt(5, 15, 2)),
			on(30, corner(2, 1, 1, 1), pt(25, 15, 3)),
			on(50, corner(1, 0, 1, 1), pt(15, 5, 4)),
			on(20, corner(1, 2, 1, 1), pt(15, 25, 5)),
		}
	}
	corners := []part{
		on(1, corner(0, 0, 1, 1)), on(2, corner(2, 0, 1, 1)), on(3, corner(0, 2, 1, 1)), on(4, corner(2, 2, 1, 1)),
		on(5, area{30, 0, end, 30}), on(6, area{0, 30, end, end}),
	}
	joined := []area{corner(0, 1, 2, 1), corner(1, 1, 2, 1), corner(1, 0, 1, 2), corner(1, 1, 1, 2)}
	x, y := tens(3), tens(3)
	for unfit := range 16 { // which of the four are not fit
		for _, spoil := range []func(p *part){
			func(p *part) { p.points = pts(p.points[0].X, p.points[0].Y, 10, 3) },
			func(p *part) { p.pages = []int{p.pages[0], p.pages[0] + 100} },
		} {
			l, best := beside(), -1
			for i := range l {
				if unfit>>i&1 == 1 {
					spoil(&l[i])
				} else if best < 0 || l[i].pages[0] < l[best].pages[0] {
					best = i
				}
			}
			g := gridOf(x, y, slices.Concat(corners, l, []part{middle})...)
			if best < 0 {
				wantShrink(t, "nobody fit", g, 15, 15, g, grid.Nothing, 0)
				continue
			}
			other := l[best]
			left := max(40, other.pages[0])
			points := slices.Concat(middle.points, other.points)
			if left == 40 {
				points = slices.Concat(other.points, middle.points)
			}
			one := on(min(40, other.pages[0]), joined[best], points...)
			wantShrink(t, "the smallest one", g, 15, 15, gridOf(x, y, slices.Concat(corners, slices.Delete(l, best, best+1), []part{one})...), grid.Merged, left)
		}
	}
}

// 17.4: a region of several pages is not merged with its neighbour, from either side, before it is unchained.
func TestShrinkSeveralPages(t *testing.T) {
	a, b := area{0, 0, 10, end}, area{10, 0, end, end}
	for n := range uint64(4) {
		l := pts(1, 1, 1, n)
		g := gridOf(tens(1), nil, part{a, []int{5, 6}, l}, on(7, b))
		wantShrink(t, "the one of one page", g, 10, 0, g, grid.Nothing, 0)
		short := gridOf(tens(1), nil, on(5, a, l...), on(7, b))
		wantShrink(t, "the one of two pages", g, 0, 0, short, grid.Unchain, 6)
		one := gridOf(tens(1), nil, on(5, area{0, 0, end, end}, l...))
		wantShrink(t, "behind that", short, 10, 0, one, grid.Merged, 7)
		wantShrink(t, "behind that, the other one", short, 0, 0, one, grid.Merged, 7)
	}
}

// 17.4: one region alone cannot shrink; the scales stay as they are.
func TestShrinkNothing(t *testing.T) {
	for n := range uint64(9) {
		for _, cuts := range [][]uint32{nil, {10}, tens(7)} {
			g := gridOf(cuts, cuts, on(1, area{0, 0, end, end}, pts(1, 1, 1, n)...))
			wantShrink(t, "one region", g, 0, 0, g, grid.Nothing, 0)
		}
	}
}

// 17.4: the cells of the region whose page is no longer used belong to the other one.
func TestShrinkCells(t *testing.T) {
	g := gridOf(tens(3), tens(1), on(9, area{0, 0, 10, end}), on(4, area{10, 0, 30, end}), on(2, area{30, 0, end, end}, pts(30, 0, 1, 4)...))
	got, kind, page := g.Shrink(5, 15)
	if kind != grid.Merged || page != 9 || !slices.Equal(got.Cells, []int{4, 4, 4, 2, 4, 4, 4, 2}) || !slices.Equal(got.Firsts(), []int{2, 4}) {
		t.Errorf("Shrink = %v, %d, %d", got, kind, page)
	}
	if box := got.R[4].Box; box != (region.Box{X1: 3, Y1: 2}) {
		t.Errorf("the box is %v", box)
	}
}
