package grid_test

import (
	"cmp"
	"math"
	"slices"
	"testing"

	"counterpane/api"
	"counterpane/grid"
	"counterpane/region"
	"counterpane/scale"
)

// rising compares two points by Id, then Key, then X, then Y.
func rising(a, b api.Point) int {
	if a.Id != b.Id {
		return cmp.Compare(a.Id, b.Id)
	}
	if a.Key != b.Key {
		return cmp.Compare(a.Key, b.Key)
	}
	if a.X != b.X {
		return cmp.Compare(a.X, b.X)
	}
	return cmp.Compare(a.Y, b.Y)
}

// inside returns the points of all regions that lie in a rectangle, in order.
func inside(g grid.Grid, w api.Rect) []api.Point {
	var l []api.Point
	for _, r := range g.R {
		for _, p := range r.Points {
			if w.X0 <= p.X && p.X <= w.X1 && w.Y0 <= p.Y && p.Y <= w.Y1 {
				l = append(l, p)
			}
		}
	}
	slices.SortFunc(l, rising)
	return l
}

// wantScan checks Scan of a rectangle.
func wantScan(t *testing.T, g grid.Grid, w api.Rect) {
	t.Helper()
	if got, want := g.Scan(w), inside(g, w); !slices.Equal(got, want) {
		t.Fatalf("%v: Scan(%v) = %v, want %v", g, w, got, want)
	}
}

// everything is the rectangle of all points.
func everything() api.Rect {
	return api.Rect{X1: math.MaxUint32, Y1: math.MaxUint32}
}

// numbersOf returns the Ids of points.
func numbersOf(l []api.Point) []uint64 {
	var ids []uint64
	for _, p := range l {
		ids = append(ids, p.Id)
	}
	return ids
}

// 17.5: rectangles that hold all points, none, one, points on their edges, and points of several cells and regions.
func TestScan(t *testing.T) {
	for _, c := range []struct {
		name string
		w    api.Rect
		want []uint64
	}{
		{"everything", everything(), []uint64{1, 2, 3, 5, 6, 7, 8, 11, 12, 20, 41, 50, 51, 52, 53, 54, 55, 56, 57}},
		{"all points but the outermost ones", api.Rect{X0: 1, Y0: 1, X1: math.MaxUint32 - 1, Y1: math.MaxUint32 - 1}, []uint64{1, 5, 7, 8, 11, 12, 20, 41, 50, 51, 52, 53, 54, 55, 56, 57}},
		{"one region alone", api.Rect{X1: 19, Y1: half - 1}, []uint64{3, 7, 20, 41}},
		{"nothing in a region", api.Rect{X0: 4, Y0: 0, X1: 9, Y1: half - 1}, nil},
		{"an empty region", api.Rect{Y0: half, X1: 9, Y1: math.MaxUint32}, nil},
		{"one point", api.Rect{X0: 29, Y0: 4, X1: 29, Y1: 4}, []uint64{11}},
		{"the first point of the plane", api.Rect{}, []uint64{3}},
		{"the last point of the plane", api.Rect{X0: math.MaxUint32, Y0: math.MaxUint32, X1: math.MaxUint32, Y1: math.MaxUint32}, []uint64{6}},
		{"beside a point", api.Rect{X0: 29, Y0: 5, X1: 29, Y1: 9}, nil},
		{"points on the edges", api.Rect{X0: 10, Y0: 4, X1: 20, Y1: 5}, []uint64{20, 41}},
		{"points on the other edges", api.Rect{X0: 20, Y0: 0, X1: 29, Y1: 4}, []uint64{2, 11}},
		{"just inside of these", api.Rect{X0: 21, Y0: 1, X1: 28, Y1: 3}, nil},
		{"points with the same attributes", api.Rect{X0: 30, Y0: 3, X1: 30, Y1: 3}, []uint64{50, 51, 52, 53, 54, 55, 56, 57}},
		{"four regions", api.Rect{X0: 19, Y0: 4, X1: 30, Y1: half + 1}, []uint64{1, 5, 11, 12, 20}},
		{"one column", api.Rect{X0: 10, X1: 19, Y1: math.MaxUint32}, []uint64{8, 20, 41}},
		{"one row", api.Rect{Y0: 5, X1: math.MaxUint32, Y1: half - 1}, []uint64{1, 7, 12, 41}},
		{"X exchanged", api.Rect{X0: 30, Y0: 0, X1: 29, Y1: math.MaxUint32}, nil},
		{"Y exchanged", api.Rect{X0: 0, Y0: 5, X1: math.MaxUint32, Y1: 4}, nil},
		{"both exchanged", api.Rect{X0: math.MaxUint32, Y0: math.MaxUint32}, nil},
		{"exchanged within a region", api.Rect{X0: 19, Y0: 4, X1: 3, Y1: 4}, nil},
	} {
		if got := numbersOf(uneven().Scan(c.w)); !slices.Equal(got, c.want) {
			t.Errorf("%s: Scan has the points %v, want %v", c.name, got, c.want)
		}
	}
	at := []uint32{0, 1, 3, 9, 10, 19, 20, 25, 29, 30, 31, half, math.MaxUint32}
	up := []uint32{0, 3, 4, 5, 6, half - 1, half, half + 1, math.MaxUint32}
	for _, x0 := range at {
		for _, x1 := range at {
			for _, y0 := range up {
				for _, y1 := range up {
					wantScan(t, uneven(), api.Rect{X0: x0, Y0: y0, X1: x1, Y1: y1})
				}
			}
		}
	}
}

// 17.5: Id, Key, X and Y decide in this order, in whichever regions and in whichever order the points are.
func TestScanOrder(t *testing.T) {
	l := []api.Point{
		{Id: 0, Key: 9, X: 99, Y: 99},
		{Id: 1, Key: 0, X: 50, Y: 80},
		{Id: 1, Key: 5, X: 3, Y: 90},
		{Id: 1, Key: 5, X: 40, Y: 1},
		{Id: 1, Key: 5, X: 40, Y: 2},
		{Id: 1, Key: 5, X: 40, Y: half},
		{Id: 1, Key: 5, X: math.MaxUint32, Y: 0},
		{Id: 1, Key: 1 << 63, X: 0, Y: 0},
		{Id: 2, Key: 0, X: 0, Y: 0},
		{Id: math.MaxUint64, Key: 0, X: 0, Y: 0},
	}
	next := noise(17)
	for range 50 {
		var parts []part
		for _, p := range each([]uint32{4, 41, 60}, []uint32{2, half}) {
			for _, i := range shuffled(next, len(l)) {
				if p.area.has(uint64(l[i].X), uint64(l[i].Y)) {
					p.points = append(p.points, l[i])
				}
			}
			parts = append(parts, p)
		}
		g := gridOf([]uint32{4, 41, 60}, []uint32{2, half}, parts...)
		wantSound(t, "a grid", g)
		if got := g.All(); !slices.Equal(got, l) {
			t.Fatalf("All = %v, want %v", got, l)
		}
		if got := g.Scan(everything()); !slices.Equal(got, l) {
			t.Fatalf("Scan = %v, want %v", got, l)
		}
		if got := g.Scan(api.Rect{X0: 1, Y0: 1, X1: 99, Y1: 99}); !slices.Equal(got, l[:5]) {
			t.Fatalf("Scan = %v, want %v", got, l[:5])
		}
	}
}

// noise returns a function that returns numbers in [0, n) that look like random ones.
func noise(seed uint64) func(n int) int {
	return func(n int) int {
		seed = seed*6364136223846793005 + 1442695040888963407
		return int(seed>>33) % n
	}
}

// shuffled returns the numbers ahead of n, in any order.
func shuffled(next func(int) int, n int) []int {
	l := numbered(0, n)
	for i := range l {
		j := i + next(n-i)
		l[i], l[j] = l[j], l[i]
	}
	return l
}

// 17.6: grids that result from the functions are sound; so is one at every limit.
func TestSound(t *testing.T) {
	for name, g := range states() {
		wantSound(t, name, g)
		for call, f := range calls() {
			wantSound(t, call+" of a grid "+name, f(g))
		}
	}
	parts := each(tens(7), tens(7))
	for i, p := range parts {
		parts[i].pages = numbered(1+6*i, 6)
		parts[i].points = pts(uint32(p.area.x1-1), uint32(p.area.y0), uint64(48*i), 48)
	}
	wantSound(t, "as many full chains as there can be", gridOf(tens(7), tens(7), parts...))
	wantSound(t, "one region of all cells", gridOf(tens(7), tens(7), on(1, area{0, 0, end, end})))
}

// 17.6: every change to one thing that Sound names is noticed.
func TestSoundBroken(t *testing.T) {
	set := func(g *grid.Grid, first int, f func(r *region.Region)) {
		r := g.R[first]
		f(&r)
		g.R[first] = r
	}
	for name, breakIt := range map[string]func(g *grid.Grid){
		"no cells":            func(g *grid.Grid) { g.Cells = nil },
		"a cell less":         func(g *grid.Grid) { g.Cells = g.Cells[:11] },
		"a cell more":         func(g *grid.Grid) { g.Cells = append(g.Cells, 3) },
		"a row less":          func(g *grid.Grid) { g.Cells = g.Cells[:8] },
		"a row more":          func(g *grid.Grid) { g.Cells = append(g.Cells, 3, 3, 3, 3) },
		"a column less":       func(g *grid.Grid) { g.X, _ = scale.Of(10, 20) },
		"a column more":       func(g *grid.Grid) { g.X, _ = scale.Of(10, 20, 30, 40) },
		"a row less by scale": func(g *grid.Grid) { g.Y = scale.Scale{} },
		"a row more by scale": func(g *grid.Grid) { g.Y, _ = scale.Of(5, half, half+9) },
		"scales exchanged": func(g *grid.Grid) {
			g.X, g.Y = g.Y, g.X
		},
		"a cut elsewhere":      func(g *grid.Grid) { g.X, _ = scale.Of(10, 19, 30) },
		"a cell elsewhere":     func(g *grid.Grid) { g.Cells[6] = 4 },
		"a cell of an area":    func(g *grid.Grid) { g.Cells[10] = 12 },
		"a cell nowhere":       func(g *grid.Grid) { g.Cells[5] = 33 },
		"a cell 0":             func(g *grid.Grid) { g.Cells[0] = 0 },
		"cells exchanged":      func(g *grid.Grid) { g.Cells[2], g.Cells[3] = g.Cells[3], g.Cells[2] },
		"an empty one's cells": func(g *grid.Grid) { g.Cells[8], g.Cells[9] = g.Cells[9], g.Cells[8] },
		"no regions":           func(g *grid.Grid) { g.R = nil },
		"a region less":        func(g *grid.Grid) { delete(g.R, 12) },
		"a region without cells": func(g *grid.Grid) {
			g.R[33] = region.Region{Pages: []int{33}}
		},
		"a region of another one's cells": func(g *grid.Grid) {
			g.R[33] = region.Region{Box: g.R[12].Box, Pages: []int{33}}
		},
		"a region of cells that are not there": func(g *grid.Grid) {
			g.R[33] = region.Region{Box: region.Box{X0: 4, Y0: 3, X1: 5, Y1: 4}, Pages: []int{33}}
		},
		"the same region under another page": func(g *grid.Grid) { g.R[33] = g.R[12] },
		"moved to another page": func(g *grid.Grid) {
			g.R[33] = g.R[12]
			delete(g.R, 12)
			g.Cells[8] = 33
		},
		"a first page that is another one": func(g *grid.Grid) { set(g, 12, func(r *region.Region) { r.Pages[0] = 33 }) },
		"a page ahead":                     func(g *grid.Grid) { set(g, 12, func(r *region.Region) { r.Pages = []int{33, 12} }) },
		"no page":                          func(g *grid.Grid) { set(g, 12, func(r *region.Region) { r.Pages = nil }) },
		"a box to the left":                func(g *grid.Grid) { set(g, 3, func(r *region.Region) { r.Box.X0-- }) },
		"a box less to the left":           func(g *grid.Grid) { set(g, 3, func(r *region.Region) { r.Box.X0++ }) },
		"a box to the right":               func(g *grid.Grid) { set(g, 9, func(r *region.Region) { r.Box.X1++ }) },
		"a box less to the right":          func(g *grid.Grid) { set(g, 7, func(r *region.Region) { r.Box.X1-- }) },
		"a box further down":               func(g *grid.Grid) { set(g, 12, func(r *region.Region) { r.Box.Y0-- }) },
		"a box less far down":              func(g *grid.Grid) { set(g, 9, func(r *region.Region) { r.Box.Y0++ }) },
		"a box further up":                 func(g *grid.Grid) { set(g, 4, func(r *region.Region) { r.Box.Y1++ }) },
		"a box less far up":                func(g *grid.Grid) { set(g, 9, func(r *region.Region) { r.Box.Y1-- }) },
		"a box behind the last column":     func(g *grid.Grid) { set(g, 3, func(r *region.Region) { r.Box.X1++ }) },
		"a box behind the last row":        func(g *grid.Grid) { set(g, 3, func(r *region.Region) { r.Box.Y1++ }) },
		"a box ahead of the first column":  func(g *grid.Grid) { set(g, 12, func(r *region.Region) { r.Box.X0-- }) },
		"a box ahead of the first row":     func(g *grid.Grid) { set(g, 9, func(r *region.Region) { r.Box.Y0-- }) },
		"a box elsewhere":                  func(g *grid.Grid) { set(g, 4, func(r *region.Region) { r.Box = region.Box{X0: 3, X1: 4, Y1: 1} }) },
		"no box":                           func(g *grid.Grid) { set(g, 12, func(r *region.Region) { r.Box = region.Box{} }) },
		"a box that is exchanged":          func(g *grid.Grid) { set(g, 12, func(r *region.Region) { r.Box = region.Box{X0: 1, Y0: 3, Y1: 2} }) },
		"boxes exchanged": func(g *grid.Grid) {
			a, b := g.R[4], g.R[200]
			a.Box, b.Box = b.Box, a.Box
			g.R[4], g.R[200] = a, b
		},
		"more points than room": func(g *grid.Grid) {
			set(g, 200, func(r *region.Region) { r.Points = append(r.Points, pt(30, 3, 99)) })
		},
		"more points than two pages have": func(g *grid.Grid) {
			set(g, 200, func(r *region.Region) { r.Pages, r.Points = []int{200, 201}, pts(30, 3, 50, 17) })
		},
		"a point of another region":   func(g *grid.Grid) { set(g, 12, func(r *region.Region) { r.Points = pts(10, half, 8, 1) }) },
		"a point of the region below": func(g *grid.Grid) { set(g, 12, func(r *region.Region) { r.Points = pts(9, half-1, 8, 1) }) },
		"a last point of another region": func(g *grid.Grid) {
			set(g, 9, func(r *region.Region) { r.Points[3].X = 20 })
		},
		"a first point of another region": func(g *grid.Grid) {
			set(g, 9, func(r *region.Region) { r.Points[0].Y = half })
		},
	} {
		g := uneven()
		breakIt(&g)
		if g.Sound() {
			t.Errorf("%s: sound", name)
		}
	}
	if (grid.Grid{}).Sound() || (grid.Grid{Cells: []int{0}}).Sound() {
		t.Error("a grid without regions is sound")
	}
}

// 17.6: regions of as many cells as their boxes have, which are not those in their boxes.
func TestSoundOtherCells(t *testing.T) {
	g := gridOf(tens(1), tens(1), on(1, area{0, 0, 10, end}), on(2, area{10, 0, end, end}))
	wantSound(t, "two columns", g)
	g.Cells = []int{1, 1, 2, 2}
	if g.Sound() {
		t.Error("two rows are sound")
	}
	g.Cells = []int{2, 1, 2, 1}
	if g.Sound() {
		t.Error("columns exchanged are sound")
	}
}

// 17.7 and R1: grids that do not result from the functions lead to no panic.
func TestStrangeGrids(t *testing.T) {
	x, _ := scale.Of(tens(7)...)
	y, _ := scale.Of(5)
	strange := []grid.Grid{
		{},
		{X: x},
		{X: x, Y: y, Cells: []int{1}},
		{X: x, Y: y, Cells: make([]int, 200)},
		{Cells: []int{1}, R: map[int]region.Region{1: {}}},
		{Cells: []int{1}, R: map[int]region.Region{2: {Box: region.Box{X1: 1, Y1: 1}, Pages: []int{1}}}},
		{X: x, Y: y, Cells: make([]int, 16), R: map[int]region.Region{0: {Box: region.Box{X1: 8, Y1: 8}, Pages: []int{1}, Points: pts(80, 5, 1, 8)}}},
	}
	for _, n := range []int{math.MinInt, -1, 1, 8, 9, math.MaxInt} {
		for _, points := range []uint64{1, 3, 8, 9, 16} {
			l := pts(1, 1, 1, points)
			l[0].X, l[0].Y = 5, 70
			for _, b := range []region.Box{{X1: n, Y1: 1}, {X1: 1, Y1: n}, {X0: n, X1: 1, Y1: 1}, {Y0: n, X1: 1, Y1: 1}, {X0: n, Y0: n, X1: n, Y1: n}} {
				one := region.Region{Box: b, Pages: []int{1}, Points: l}
				two := region.Region{Box: b, Pages: []int{3, 4}, Points: l}
				strange = append(strange,
					grid.Grid{Cells: []int{1}, R: map[int]region.Region{1: one}},
					grid.Grid{X: y, Cells: []int{1, 3}, R: map[int]region.Region{1: one, 3: two}},
					grid.Grid{X: y, Y: y, Cells: []int{1, 3}, R: map[int]region.Region{3: one, 1: two, 5: one}})
			}
		}
	}
	for _, g := range strange {
		for _, f := range calls() {
			for _, h := range calls() {
				out := h(f(copyOf(g)))
				out.Sound()
				out.All()
				out.Scan(api.Rect{X1: 9, Y1: 9})
				out.Firsts()
				out.At(1, 1)
				out.Where(1, 1)
			}
		}
	}
}

// model is a grid without cells: where the attributes are cut, and areas of the plane.
type model struct {
	x, y  []uint32
	parts []part
}

// of returns the index of the region of attributes.
func (m *model) of(x, y uint32) int {
	return slices.IndexFunc(m.parts, func(p part) bool { return p.area.has(uint64(x), uint64(y)) })
}

// points returns all points.
func (m *model) points() []api.Point {
	var l []api.Point
	for _, p := range m.parts {
		l = append(l, p.points...)
	}
	slices.SortFunc(l, rising)
	return l
}

func (m *model) put(p api.Point) api.Code {
	r := &m.parts[m.of(p.X, p.Y)]
	switch {
	case len(r.points) == 8*len(r.pages):
		return api.ErrFull
	case slices.Contains(r.points, p):
		return api.ErrTwice
	}
	r.points = append(slices.Clone(r.points), p)
	return api.OK
}

func (m *model) drop(p api.Point) bool {
	r := &m.parts[m.of(p.X, p.Y)]
	i := slices.Index(r.points, p)
	if i >= 0 {
		r.points = slices.Delete(slices.Clone(r.points), i, i+1)
	}
	return i >= 0
}

// lines returns how many intervals lie between two edges.
func lines(cuts []uint32, from, to uint64) int {
	l := edges(cuts)
	return slices.Index(l, to) - slices.Index(l, from)
}

// best returns the number that divides the others most evenly; 0: there is none.
func best(l []uint32) uint32 {
	found, least := uint32(0), 0
	for _, n := range l {
		below := 0
		for _, other := range l {
			if other < n {
				below++
			}
		}
		difference := below - (len(l) - below)
		if difference < 0 {
			difference = -difference
		}
		if below > 0 && (found == 0 || difference < least || difference == least && n < found) {
			found, least = n, difference
		}
	}
	return found
}

// refine cuts one of the scales, if it can.
func (m *model) refine(l []api.Point) bool {
	var xs, ys []uint32
	for _, p := range l {
		xs, ys = append(xs, p.X), append(ys, p.Y)
	}
	cutX, cutY := best(xs), best(ys)
	couldX, couldY := cutX > 0 && len(m.x) < 7, cutY > 0 && len(m.y) < 7
	switch {
	case couldX && (len(m.x) <= len(m.y) || !couldY):
		m.x = slices.Sorted(slices.Values(append(slices.Clone(m.x), cutX)))
	case couldY:
		m.y = slices.Sorted(slices.Values(append(slices.Clone(m.y), cutY)))
	default:
		return false
	}
	return true
}

func (m *model) grow(x, y uint32, page int) (int, api.Code) {
	i := m.of(x, y)
	p := m.parts[i]
	columns, rows := lines(m.x, p.area.x0, p.area.x1), lines(m.y, p.area.y0, p.area.y1)
	switch {
	case len(p.points) < 8*len(p.pages):
		return grid.Nothing, api.OK
	case len(p.pages) == 1 && columns*rows == 1 && m.refine(p.points):
		return grid.Refined, api.OK
	case page < 1:
		return grid.Nothing, api.ErrFull
	case len(p.pages) == 1 && columns*rows > 1:
		m.split(i, columns, rows, page)
		return grid.Split, api.OK
	case len(p.pages) == 6:
		return grid.Nothing, api.ErrFull
	}
	m.parts[i].pages = append(slices.Clone(p.pages), page)
	return grid.Chained, api.OK
}

// split divides a region of so many columns and rows.
func (m *model) split(i, columns, rows, page int) {
	p := m.parts[i]
	low, high := part{area: p.area, pages: p.pages}, part{area: p.area, pages: []int{page}}
	if columns >= rows {
		low.area.x1 = edges(m.x)[slices.Index(edges(m.x), p.area.x0)+columns/2]
		high.area.x0 = low.area.x1
	} else {
		low.area.y1 = edges(m.y)[slices.Index(edges(m.y), p.area.y0)+rows/2]
		high.area.y0 = low.area.y1
	}
	for _, one := range p.points {
		if low.area.has(uint64(one.X), uint64(one.Y)) {
			low.points = append(low.points, one)
		} else {
			high.points = append(high.points, one)
		}
	}
	m.parts = append(slices.Delete(slices.Clone(m.parts), i, i+1), low, high)
}

func (m *model) shrink(x, y uint32) (int, int) {
	i := m.of(x, y)
	p := m.parts[i]
	if n := len(p.pages); n > 1 && len(p.points) <= 8*(n-1) {
		m.parts[i].pages = slices.Clone(p.pages[:n-1])
		return grid.Unchain, p.pages[n-1]
	}
	j := -1
	for k, q := range m.parts {
		if k == i || len(p.pages) > 1 || len(q.pages) > 1 || len(p.points)+len(q.points) > 3 {
			continue
		}
		a, b := p.area, q.area
		beside := a.y0 == b.y0 && a.y1 == b.y1 && (a.x1 == b.x0 || b.x1 == a.x0)
		above := a.x0 == b.x0 && a.x1 == b.x1 && (a.y1 == b.y0 || b.y1 == a.y0)
		if (beside || above) && (j < 0 || q.pages[0] < m.parts[j].pages[0]) {
			j = k
		}
	}
	if j < 0 {
		return grid.Nothing, 0
	}
	low, high := p, m.parts[j]
	if low.pages[0] > high.pages[0] {
		low, high = high, low
	}
	a, b := low.area, high.area
	one := on(low.pages[0], area{min(a.x0, b.x0), min(a.y0, b.y0), max(a.x1, b.x1), max(a.y1, b.y1)}, slices.Concat(low.points, high.points)...)
	m.parts[i] = one
	m.parts = slices.Delete(slices.Clone(m.parts), j, j+1)
	return grid.Merged, high.pages[0]
}

// run is a grid beside its model, with the pages that it does not use.
type run struct {
	t     *testing.T
	next  func(int) int
	g     grid.Grid
	m     model
	free  []int
	last  uint64 // the Id of the newest point
	wide  int    // how many different attributes there are
	seen  map[int]int
	codes map[api.Code]int
}

func newRun(t *testing.T, next func(int) int, wide int) *run {
	first := 1 + next(200)
	free := slices.DeleteFunc(numbered(1, 600), func(n int) bool { return n == first })
	m := model{parts: []part{on(first, area{0, 0, end, end})}}
	return &run{t: t, next: next, g: grid.New(first), m: m, free: free, wide: wide, seen: map[int]int{}, codes: map[api.Code]int{}}
}

// attribute returns one of few numbers, which lie all over the range.
func (x *run) attribute() uint32 {
	n := uint32(x.next(x.wide))
	if n == 1 {
		return math.MaxUint32
	}
	return n * (math.MaxUint32 / uint32(x.wide))
}

// check holds the grid against the model.
func (x *run) check() {
	x.t.Helper()
	wantGrid(x.t, "a random call", x.g, gridOf(x.m.x, x.m.y, x.m.parts...))
}

// grow makes a step, and returns whether there was one.
func (x *run) grow(atX, atY uint32) bool {
	x.t.Helper()
	i := x.next(len(x.free))
	page := x.free[i]
	if x.next(8) == 0 {
		page = -x.next(2)
	}
	g, kind, code := x.g.Grow(atX, atY, page)
	wantKind, wantCode := x.m.grow(atX, atY, page)
	if kind != wantKind || code != wantCode {
		x.t.Fatalf("%v: Grow(%d, %d, %d) = %d, %d, want %d, %d", x.g, atX, atY, page, kind, code, wantKind, wantCode)
	}
	if kind == grid.Split || kind == grid.Chained {
		x.free = slices.Delete(x.free, i, i+1)
	}
	x.g = g
	x.seen[kind]++
	x.check()
	return kind != grid.Nothing
}

// shrink makes a step, and returns whether there was one.
func (x *run) shrink(atX, atY uint32) bool {
	x.t.Helper()
	g, kind, page := x.g.Shrink(atX, atY)
	wantKind, wantPage := x.m.shrink(atX, atY)
	if kind != wantKind || page != wantPage {
		x.t.Fatalf("%v: Shrink(%d, %d) = %d, %d, want %d, %d", x.g, atX, atY, kind, page, wantKind, wantPage)
	}
	if page > 0 {
		x.free = append(x.free, page)
	}
	x.g = g
	x.seen[kind]++
	x.check()
	return kind != grid.Nothing
}

// put puts a point, mostly behind steps of growth, and mostly a new one.
func (x *run) put() {
	x.t.Helper()
	p := api.Point{X: x.attribute(), Y: x.attribute(), Id: x.last + 1, Key: uint64(x.next(3))}
	if l := x.m.points(); len(l) > 0 && x.next(10) == 0 {
		p = l[x.next(len(l))]
	}
	for x.next(10) > 0 && x.grow(p.X, p.Y) {
	}
	g, code := x.g.Put(p)
	if want := x.m.put(p); code != want {
		x.t.Fatalf("%v: Put(%v) has code %d, want %d", x.g, p, code, want)
	}
	x.g, x.last = g, max(x.last, p.Id)
	x.codes[code]++
	x.check()
}

// drop drops a point, mostly one that is there.
func (x *run) drop() {
	x.t.Helper()
	p := api.Point{X: x.attribute(), Y: x.attribute(), Id: uint64(x.next(int(x.last) + 1))}
	if l := x.m.points(); len(l) > 0 && x.next(10) > 0 {
		p = l[x.next(len(l))]
	}
	g, ok := x.g.Drop(p)
	if want := x.m.drop(p); ok != want {
		x.t.Fatalf("%v: Drop(%v) = %v, want %v", x.g, p, ok, want)
	}
	x.g = g
	x.check()
	for x.next(4) > 0 && x.shrink(p.X, p.Y) {
	}
}

// find looks for every point, and for all points of some rectangles.
func (x *run) find() {
	x.t.Helper()
	wantSound(x.t, "a random grid", x.g)
	all := x.m.points()
	if got := x.g.All(); !slices.Equal(got, all) {
		x.t.Fatalf("%v: All = %v, want %v", x.g, got, all)
	}
	for range 20 {
		w := api.Rect{X0: x.attribute(), Y0: x.attribute(), X1: x.attribute(), Y1: x.attribute()}
		wantScan(x.t, x.g, w)
	}
	for _, p := range x.m.parts {
		for _, at := range [][2]uint64{{p.area.x0, p.area.y0}, {p.area.x1 - 1, p.area.y1 - 1}} {
			if got := x.g.Where(uint32(at[0]), uint32(at[1])); got != p.pages[0] {
				x.t.Fatalf("%v: Where(%d, %d) = %d, want %d", x.g, at[0], at[1], got, p.pages[0])
			}
		}
	}
}

// room calls Grow with pages until there is room: at most six halves, one more of a line that was cut, or a page; the longest chain alone has none.
func (x *run) room(atX, atY uint32) {
	x.t.Helper()
	g, pages := x.g, slices.Clone(x.free)
	for range 8 {
		r := g.At(atX, atY)
		next, kind, code := g.Grow(atX, atY, pages[0])
		switch {
		case r.Room() > 0:
			return
		case code != api.OK:
			if code != api.ErrFull || len(r.Pages) != 6 {
				x.t.Fatalf("%v: Grow(%d, %d) has code %d", g, atX, atY, code)
			}
			return
		case kind == grid.Nothing:
			x.t.Fatalf("%v: Grow(%d, %d) does nothing for a full region", g, atX, atY)
		case kind != grid.Refined:
			pages = pages[1:]
		}
		g = next
		wantSound(x.t, "growth", g)
	}
	if g.At(atX, atY).Room() <= 0 {
		x.t.Fatalf("%v: no room behind eight steps", x.g)
	}
}

// 17.1 to 17.7, P6: random calls, held against the model; all earlier grids stay as they were.
func TestRandomCalls(t *testing.T) {
	next := noise(16)
	seen, codes := map[int]int{}, map[api.Code]int{}
	for i := range 60 {
		x := newRun(t, next, []int{1, 2, 3, 5, 12, 1000}[i%6])
		var earlier, copies []grid.Grid
		for step := range 600 {
			filling := step/150%2 == 0
			switch n := next(10); {
			case n == 0:
				x.grow(x.attribute(), x.attribute())
			case n == 1:
				x.shrink(x.attribute(), x.attribute())
			case (n < 8) == filling:
				x.put()
			default:
				x.drop()
			}
			if step%10 == 0 {
				x.find()
				x.room(x.attribute(), x.attribute())
				earlier, copies = append(earlier, x.g), append(copies, copyOf(x.g))
			}
		}
		for i := range earlier {
			wantGrid(t, "an earlier grid", earlier[i], copies[i])
		}
		for kind, n := range x.seen {
			seen[kind] += n
		}
		for code, n := range x.codes {
			codes[code] += n
		}
	}
	for kind := range 6 {
		if seen[kind] < 20 {
			t.Errorf("the random calls had the step %d only %d times", kind, seen[kind])
		}
	}
	for _, code := range []api.Code{api.OK, api.ErrFull, api.ErrTwice} {
		if codes[code] < 20 {
			t.Errorf("the random calls had the code %d only %d times", code, codes[code])
		}
	}
}

// grown returns the grid in which there is room for a point, the kinds of the steps, and the next page.
func grown(t *testing.T, g grid.Grid, p api.Point, page int) (grid.Grid, []int, int) {
	t.Helper()
	var kinds []int
	for {
		next, kind, code := g.Grow(p.X, p.Y, page)
		if code != api.OK {
			t.Fatalf("Grow has code %d behind %v", code, kinds)
		}
		if kind == grid.Nothing {
			return next, kinds, page
		}
		if kind != grid.Refined {
			page++
		}
		kinds = append(kinds, kind)
		g = next
		wantSound(t, "growth", g)
	}
}

// 17.7: for points that are all equal there is a page more each time, up to six.
func TestGrowToTheEnd(t *testing.T) {
	g, page := grid.New(1), 2
	for i := range uint64(48) {
		next, kinds, nextPage := grown(t, g, pt(7, 9, i), page)
		var want []int
		if i > 0 && i%8 == 0 {
			want = []int{grid.Chained}
		}
		if !slices.Equal(kinds, want) {
			t.Fatalf("ahead of point %d, the steps are %v, want %v", i, kinds, want)
		}
		var code api.Code
		if g, code = next.Put(pt(7, 9, i)); code != api.OK {
			t.Fatalf("Put of point %d: code %d", i, code)
		}
		page = nextPage
		wantSound(t, "Put", g)
	}
	if _, kind, code := g.Grow(7, 9, page); kind != grid.Nothing || code != api.ErrFull {
		t.Errorf("Grow at the end = %d, %d", kind, code)
	}
	if got := g.Scan(api.Rect{X0: 7, Y0: 9, X1: 7, Y1: 9}); !slices.Equal(got, pts(7, 9, 0, 48)) {
		t.Errorf("Scan at the end = %v", got)
	}
}

// 17.7: points that are all equal in one attribute lead to cuts of the other one, as long as there can be any.
func TestGrowLine(t *testing.T) {
	for name, at := range map[string]func(n uint32) (x, y uint32){
		"equal X": func(n uint32) (uint32, uint32) { return 7, n },
		"equal Y": func(n uint32) (uint32, uint32) { return n, 7 },
	} {
		g, page := grid.New(1), 2
		seen := map[int]int{}
		var all []api.Point
		for i := range uint64(76) { // four in each of seven intervals, and six pages of eight in the last one
			x, y := at(uint32(i))
			p := pt(x, y, i)
			next, kinds, nextPage := grown(t, g, p, page)
			for _, kind := range kinds {
				seen[kind]++
			}
			var code api.Code
			if g, code = next.Put(p); code != api.OK {
				t.Fatalf("%s: Put of point %d: code %d", name, i, code)
			}
			page = nextPage
			all = append(all, p)
			if got := g.All(); !slices.Equal(got, all) {
				t.Fatalf("%s: All = %v", name, got)
			}
		}
		columns, rows := 8, 1
		if name == "equal X" {
			columns, rows = 1, 8
		}
		if g.X.Len() != columns || g.Y.Len() != rows || seen[grid.Refined] != 7 || seen[grid.Split] != 7 || seen[grid.Chained] != 5 {
			t.Errorf("%s: %d columns, %d rows, the steps are %v", name, g.X.Len(), g.Y.Len(), seen)
		}
	}
}

// 17.7: the most steps: a region of many cells whose points lie in the last one.
func TestGrowManySteps(t *testing.T) {
	x, y := tens(7), tens(6)
	l := listed([]uint32{70, 71, 72, 73, 74, 75, 76, 77}, []uint32{60, 61, 62, 63, 64, 65, 66, 67})
	g := gridOf(x, y, on(1, area{0, 0, end, end}, l...))
	g, kinds, page := grown(t, g, pt(77, 67, 9), 2)
	if !slices.Equal(kinds, []int{grid.Split, grid.Split, grid.Split, grid.Split, grid.Split, grid.Split, grid.Refined, grid.Split}) || page != 9 {
		t.Errorf("the steps are %v, the next page is %d", kinds, page)
	}
	if got := g.Scan(everything()); len(got) != 8 {
		t.Errorf("Scan has %d points", len(got))
	}
}

// 17.7: every point is found behind each step of growth and of shrinking, until nothing is left.
func TestStoredIsFound(t *testing.T) {
	g, page := grid.New(1), 2
	var stored []api.Point
	check := func() {
		t.Helper()
		wantSound(t, "a step", g)
		if got := g.All(); !slices.Equal(got, stored) {
			t.Fatalf("All = %v, want %v", got, stored)
		}
		for _, w := range []api.Rect{{X0: 1000, Y0: 30, X1: 7000, Y1: 9000}, {Y0: 100, X1: 9999, Y1: 100}} {
			var want []api.Point
			for _, p := range stored {
				if w.X0 <= p.X && p.X <= w.X1 && w.Y0 <= p.Y && p.Y <= w.Y1 {
					want = append(want, p)
				}
			}
			if got := g.Scan(w); !slices.Equal(got, want) {
				t.Fatalf("Scan(%v) = %v, want %v", w, got, want)
			}
		}
	}
	for i := range uint64(150) {
		p := pt(uint32(i*i%10007), uint32(i*i*i%10009), i)
		g, _, page = grown(t, g, p, page)
		var code api.Code
		if g, code = g.Put(p); code != api.OK {
			t.Fatalf("Put of point %d: code %d", i, code)
		}
		stored = append(stored, p)
		check()
	}
	used := map[int]int{}
	for len(stored) > 0 {
		p := stored[len(stored)/2]
		stored = slices.Delete(stored, len(stored)/2, len(stored)/2+1)
		g, _ = g.Drop(p)
		for kind := -1; kind != grid.Nothing; check() {
			var left int
			g, kind, left = g.Shrink(p.X, p.Y)
			if left > 0 {
				used[left]++
			}
		}
	}
	for left, n := range used {
		if _, ok := g.R[left]; n > 1 || ok {
			t.Errorf("page %d was left over %d times, or is used", left, n)
		}
	}
	if len(used) == 0 || len(g.R)+len(used) != page-1 {
		t.Errorf("%d pages were left over, and %d regions are there", len(used), len(g.R))
	}
}

// Example 1: for a ninth point in a single cell, a scale is cut at the middle and then the region is split.
func TestExample(t *testing.T) {
	l := []api.Point{pt(80, 1, 1), pt(10, 2, 2), pt(70, 3, 3), pt(20, 4, 4), pt(60, 5, 5), pt(30, 6, 6), pt(50, 7, 7), pt(40, 8, 8)}
	ninth := pt(90, 9, 9)
	g := grid.New(1)
	for _, p := range l {
		var code api.Code
		if g, code = g.Put(p); code != api.OK {
			t.Fatal(code)
		}
	}
	if _, code := g.Put(ninth); code != api.ErrFull {
		t.Errorf("the ninth point has code %d", code)
	}
	g, kinds, page := grown(t, g, ninth, 2)
	if !slices.Equal(kinds, []int{grid.Refined, grid.Split}) || page != 3 {
		t.Fatalf("the steps are %v, the next page is %d", kinds, page)
	}
	g, code := g.Put(ninth)
	if code != api.OK {
		t.Fatalf("the ninth point has code %d", code)
	}
	wantGrid(t, "the example", g, gridOf([]uint32{50}, nil,
		on(1, area{0, 0, 50, end}, l[1], l[3], l[5], l[7]),
		on(2, area{50, 0, end, end}, l[0], l[2], l[4], l[6], ninth)))
}
