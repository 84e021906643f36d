package grid_test

import (
	"maps"
	"math"
	"slices"
	"testing"

	"counterpane/api"
	"counterpane/grid"
	"counterpane/region"
	"counterpane/scale"
)

// end is the first number behind an attribute's, and half the middle one.
const (
	end  = 1 << 32
	half = 1 << 31
)

// area is what lies from X0 on, ahead of X1, and from Y0 on, ahead of Y1.
type area struct{ x0, y0, x1, y1 uint64 }

// has reports whether attributes lie in the area.
func (a area) has(x, y uint64) bool {
	return a.x0 <= x && x < a.x1 && a.y0 <= y && y < a.y1
}

// part is a region, and the points that could be in it.
type part struct {
	area   area
	pages  []int
	points []api.Point
}

// on returns a part with one page.
func on(page int, a area, l ...api.Point) part {
	return part{area: a, pages: []int{page}, points: l}
}

// edges returns where the intervals begin, and where the last one ends.
func edges(cuts []uint32) []uint64 {
	l := []uint64{0}
	for _, cut := range cuts {
		l = append(l, uint64(cut))
	}
	return append(l, end)
}

// box returns the cells of an area, which must begin and end at cuts.
func (a area) box(x, y []uint32) region.Box {
	at := func(cuts []uint32, n uint64) int {
		i := slices.Index(edges(cuts), n)
		if i < 0 {
			panic("an area does not end at a cut")
		}
		return i
	}
	return region.Box{X0: at(x, a.x0), Y0: at(y, a.y0), X1: at(x, a.x1), Y1: at(y, a.y1)}
}

// gridOf returns the grid of these regions, where the attributes are cut so.
func gridOf(x, y []uint32, parts ...part) grid.Grid {
	g := grid.Grid{R: map[int]region.Region{}}
	g.X, _ = scale.Of(x...)
	g.Y, _ = scale.Of(y...)
	for _, p := range parts {
		g.R[p.pages[0]] = region.Region{Box: p.area.box(x, y), Pages: slices.Clone(p.pages), Points: slices.Clone(p.points)}
	}
	for _, y0 := range edges(y)[:len(y)+1] {
		for _, x0 := range edges(x)[:len(x)+1] {
			i := slices.IndexFunc(parts, func(p part) bool { return p.area.has(x0, y0) })
			g.Cells = append(g.Cells, parts[i].pages[0])
		}
	}
	return g
}

// pt returns the point with these attributes and this number.
func pt(x, y uint32, id uint64) api.Point {
	return api.Point{X: x, Y: y, Id: id, Key: id + 100}
}

// pts returns n points with the same attributes and the numbers from one on.
func pts(x, y uint32, from, n uint64) []api.Point {
	var l []api.Point
	for i := range n {
		l = append(l, pt(x, y, from+i))
	}
	return l
}

// unevenX and unevenY are where uneven is cut.
func unevenX() []uint32 { return []uint32{10, 20, 30} }
func unevenY() []uint32 { return []uint32{5, half} }

// unevenParts are the regions of uneven, of several sizes.
func unevenParts() []part {
	return []part{
		on(9, area{0, 0, 20, half}, pt(19, 4, 20), pt(0, 0, 3), pt(10, 5, 41), pt(3, half-1, 7)),
		on(4, area{20, 0, 30, 5}, pt(29, 4, 11), pt(20, 0, 2)),
		on(200, area{30, 0, end, 5}, pts(30, 3, 50, 8)...),
		on(7, area{20, 5, end, half}, pt(30, 5, 12), pt(29, half-1, 1)),
		on(12, area{0, half, 10, end}),
		on(3, area{10, half, end, end}, pt(math.MaxUint32, math.MaxUint32, 6), pt(10, half, 8), pt(25, half+1, 5)),
	}
}

// uneven is a grid with four columns and three rows.
func uneven() grid.Grid {
	return gridOf(unevenX(), unevenY(), unevenParts()...)
}

// copyOf returns a grid that shares no memory with g.
func copyOf(g grid.Grid) grid.Grid {
	out := grid.Grid{X: g.X, Y: g.Y, Cells: slices.Clone(g.Cells), R: map[int]region.Region{}}
	for first, r := range g.R {
		out.R[first] = region.Region{Box: r.Box, Pages: slices.Clone(r.Pages), Points: slices.Clone(r.Points)}
	}
	return out
}

func sameRegion(a, b region.Region) bool {
	return a.Box == b.Box && slices.Equal(a.Pages, b.Pages) && slices.Equal(a.Points, b.Points)
}

func same(a, b grid.Grid) bool {
	return a.X == b.X && a.Y == b.Y && slices.Equal(a.Cells, b.Cells) && maps.EqualFunc(a.R, b.R, sameRegion)
}

func wantGrid(t *testing.T, name string, got, want grid.Grid) {
	t.Helper()
	if !same(got, want) {
		t.Fatalf("%s:\n%v, want\n%v", name, got, want)
	}
}

func wantSound(t *testing.T, name string, g grid.Grid) {
	t.Helper()
	if !g.Sound() {
		t.Fatalf("%s: not sound: %v", name, g)
	}
}

// 17.3 and 17.4: the constants of the chapter.
func TestConstants(t *testing.T) {
	kinds := []int{grid.Nothing, grid.Refined, grid.Split, grid.Chained, grid.Unchain, grid.Merged}
	if !slices.Equal(kinds, []int{0, 1, 2, 3, 4, 5}) || grid.MaxMerge != 3 {
		t.Error("a constant is wrong")
	}
}

// 17.1: one cell, and one region on the page, for all attributes.
func TestNew(t *testing.T) {
	for _, page := range []int{1, 2, 119, 255, 256, 1 << 40, math.MaxInt} {
		g := grid.New(page)
		one := region.Region{Box: region.Box{X0: 0, Y0: 0, X1: 1, Y1: 1}, Pages: []int{page}}
		wantGrid(t, "New", g, grid.Grid{Cells: []int{page}, R: map[int]region.Region{page: one}})
		wantSound(t, "New", g)
		if g.X.Len() != 1 || g.Y.Len() != 1 {
			t.Errorf("New has %d columns and %d rows", g.X.Len(), g.Y.Len())
		}
		if l := g.Firsts(); !slices.Equal(l, []int{page}) {
			t.Errorf("Firsts = %v", l)
		}
		if l, m := g.All(), g.Scan(api.Rect{X1: math.MaxUint32, Y1: math.MaxUint32}); len(l) != 0 || len(m) != 0 {
			t.Errorf("All = %v, Scan = %v", l, m)
		}
		for _, x := range []uint32{0, 1, half, math.MaxUint32} {
			for _, y := range []uint32{0, 1, half, math.MaxUint32} {
				if g.Where(x, y) != page || !sameRegion(g.At(x, y), one) {
					t.Errorf("the region of %d, %d is %v on page %d", x, y, g.At(x, y), g.Where(x, y))
				}
			}
		}
	}
}

// 17.1: two new grids share nothing.
func TestNewTwice(t *testing.T) {
	a, b := grid.New(3), grid.New(3)
	scribble(a)
	wantGrid(t, "New", b, gridOf(nil, nil, on(3, area{0, 0, end, end})))
}

// 17.1: row by row, and column by column.
func TestCells(t *testing.T) {
	g := uneven()
	wantSound(t, "uneven", g)
	if !slices.Equal(g.Cells, []int{9, 9, 4, 200, 9, 9, 7, 7, 12, 3, 3, 3}) {
		t.Fatalf("Cells = %v", g.Cells)
	}
	for first, want := range map[int]region.Box{
		9:   {X0: 0, Y0: 0, X1: 2, Y1: 2},
		4:   {X0: 2, Y0: 0, X1: 3, Y1: 1},
		200: {X0: 3, Y0: 0, X1: 4, Y1: 1},
		7:   {X0: 2, Y0: 1, X1: 4, Y1: 2},
		12:  {X0: 0, Y0: 2, X1: 1, Y1: 3},
		3:   {X0: 1, Y0: 2, X1: 4, Y1: 3},
	} {
		if got := g.R[first].Box; got != want {
			t.Errorf("the box of %d is %v, want %v", first, got, want)
		}
	}
}

// 17.1: the first, the middle and the last columns and rows, on both sides of each cut.
func TestWhere(t *testing.T) {
	g := uneven()
	columns := [][]uint32{{0, 1, 9}, {10, 11, 19}, {20, 21, 29}, {30, 31, half, math.MaxUint32}}
	rows := [][]uint32{{0, 1, 4}, {5, 6, half - 1}, {half, half + 1, math.MaxUint32}}
	want := [][]int{{9, 9, 4, 200}, {9, 9, 7, 7}, {12, 3, 3, 3}}
	for row, ys := range rows {
		for column, xs := range columns {
			for _, x := range xs {
				for _, y := range ys {
					first := want[row][column]
					if got := g.Where(x, y); got != first {
						t.Errorf("Where(%d, %d) = %d, want %d", x, y, got, first)
					}
					if got := g.At(x, y); !sameRegion(got, uneven().R[first]) {
						t.Errorf("At(%d, %d) = %v, want %v", x, y, got, uneven().R[first])
					}
				}
			}
		}
	}
}

// each returns a region for each cell, on the pages from 101 on.
func each(x, y []uint32) []part {
	var l []part
	for row := range len(y) + 1 {
		for column := range len(x) + 1 {
			l = append(l, on(101+len(l), area{edges(x)[column], edges(y)[row], edges(x)[column+1], edges(y)[row+1]}))
		}
	}
	return l
}

// tens returns n cuts at multiples of ten.
func tens(n int) []uint32 {
	var l []uint32
	for i := range n {
		l = append(l, uint32(i+1)*10)
	}
	return l
}

// 17.1: with scales of all lengths.
func TestWhereOfLengths(t *testing.T) {
	for columns := 1; columns <= 8; columns++ {
		for rows := 1; rows <= 8; rows++ {
			g := gridOf(tens(columns-1), tens(rows-1), each(tens(columns-1), tens(rows-1))...)
			wantSound(t, "a region a cell", g)
			for row := range rows {
				for column := range columns {
					want := 101 + row*columns + column
					for _, more := range []uint32{0, 9} {
						x, y := uint32(column)*10+more, uint32(row)*10+more
						if g.Where(x, y) != want || g.At(x, y).Pages[0] != want {
							t.Errorf("%d columns, %d rows: Where(%d, %d) = %d, want %d", columns, rows, x, y, g.Where(x, y), want)
						}
					}
				}
			}
		}
	}
}

// 17.1: ascending first pages, and no others.
func TestFirsts(t *testing.T) {
	for _, c := range []struct {
		g    grid.Grid
		want []int
	}{
		{grid.New(8), []int{8}},
		{uneven(), []int{3, 4, 7, 9, 12, 200}},
		{gridOf(tens(1), nil, on(30, area{0, 0, 10, end}), on(20, area{10, 0, end, end})), []int{20, 30}},
		{gridOf(nil, nil, part{area{0, 0, end, end}, []int{50, 2, 3}, nil}), []int{50}},
		{gridOf(tens(7), tens(7), each(tens(7), tens(7))...), numbered(101, 64)},
	} {
		if got := c.g.Firsts(); !slices.Equal(got, c.want) {
			t.Errorf("Firsts = %v, want %v", got, c.want)
		}
	}
}

// numbered returns n pages from the first one on.
func numbered(first, n int) []int {
	var l []int
	for i := range n {
		l = append(l, first+i)
	}
	return l
}

// change returns the grid in which the region under this first page has other points.
func change(g grid.Grid, first int, l ...api.Point) grid.Grid {
	out := copyOf(g)
	r := out.R[first]
	r.Points = l
	out.R[first] = r
	return out
}

// 17.2: the point stands behind the others of its region.
func TestPut(t *testing.T) {
	g := uneven()
	for _, c := range []struct {
		first int
		p     api.Point
	}{
		{9, pt(0, 0, 77)},
		{9, pt(19, half-1, 11)},                          // a number of another region
		{9, api.Point{X: 19, Y: 4, Id: 20, Key: 0}},      // all but one field of a point that is there
		{9, api.Point{X: 19, Y: 4, Id: 21, Key: 120}},    //
		{9, api.Point{X: 19, Y: 3, Id: 20, Key: 120}},    //
		{9, api.Point{X: 18, Y: 4, Id: 20, Key: 120}},    //
		{12, pt(9, half, 77)},                            // into an empty region
		{7, api.Point{X: 20, Y: 5}},                      // numbers at both ends of their range
		{3, pt(math.MaxUint32, math.MaxUint32, 1<<64-1)}, //
	} {
		got, code := g.Put(c.p)
		if code != api.OK {
			t.Fatalf("Put(%v): code %d", c.p, code)
		}
		wantGrid(t, "Put", got, change(g, c.first, append(slices.Clone(g.R[c.first].Points), c.p)...))
		wantGrid(t, "the earlier grid", g, uneven())
		wantSound(t, "Put", got)
	}
}

// 17.2: a region has room for eight points a page.
func TestPutRoom(t *testing.T) {
	for pages := 1; pages <= 6; pages++ {
		g := gridOf(nil, nil, part{area{0, 0, end, end}, numbered(10, pages), pts(1, 2, 0, uint64(8*pages-1))})
		got, code := g.Put(pt(1, 2, 90))
		if code != api.OK {
			t.Errorf("%d pages: the last point has code %d", pages, code)
		}
		wantSound(t, "full", got)
		again, code := got.Put(pt(1, 2, 91))
		if code != api.ErrFull {
			t.Errorf("%d pages: a point more has code %d", pages, code)
		}
		wantGrid(t, "full", again, got)
	}
}

// 17.2: each code of the region's Add, with the unchanged grid beside it.
func TestPutRejects(t *testing.T) {
	for _, c := range []struct {
		name string
		p    api.Point
		want api.Code
	}{
		{"a full region", pt(30, 4, 99), api.ErrFull},
		{"a full region with the point", pt(30, 3, 53), api.ErrFull},
		{"a point that is there, the first one", pt(19, 4, 20), api.ErrTwice},
		{"a point that is there, the last one", pt(3, half-1, 7), api.ErrTwice},
		{"a point that is there, at the end of the plane", pt(math.MaxUint32, math.MaxUint32, 6), api.ErrTwice},
	} {
		g := uneven()
		got, code := g.Put(c.p)
		if code != c.want {
			t.Errorf("%s: code %d, want %d", c.name, code, c.want)
		}
		wantGrid(t, c.name, got, uneven())
		wantGrid(t, c.name+", the earlier grid", g, uneven())
	}
}

// 17.2: the point is gone, the others stay in their order.
func TestDrop(t *testing.T) {
	g := uneven()
	for first, r := range uneven().R {
		for i, p := range r.Points {
			got, ok := g.Drop(p)
			if !ok {
				t.Fatalf("Drop(%v) is false", p)
			}
			wantGrid(t, "Drop", got, change(g, first, slices.Delete(slices.Clone(r.Points), i, i+1)...))
			wantGrid(t, "the earlier grid", g, uneven())
			wantSound(t, "Drop", got)
			if again, ok := got.Drop(p); ok || !same(again, got) {
				t.Errorf("Drop(%v) again = %v, %v", p, again, ok)
			}
		}
	}
}

// 17.2: the unchanged grid and false, where the region of the point does not contain exactly this point.
func TestDropNone(t *testing.T) {
	points := []api.Point{pt(9, half, 1), pt(35, 3, 50), {}, pt(30, 4, 50)}
	for _, p := range uneven().All() { // all fields but one of a point that is there
		points = append(points,
			api.Point{X: p.X + 1, Y: p.Y, Id: p.Id, Key: p.Key},
			api.Point{X: p.X, Y: p.Y + 1, Id: p.Id, Key: p.Key},
			api.Point{X: p.X, Y: p.Y, Id: p.Id + 100, Key: p.Key},
			api.Point{X: p.X, Y: p.Y, Id: p.Id, Key: p.Key + 1<<32})
	}
	for _, p := range points {
		g := uneven()
		got, ok := g.Drop(p)
		if ok {
			t.Errorf("Drop(%v) is true", p)
		}
		wantGrid(t, "Drop", got, uneven())
		wantGrid(t, "the earlier grid", g, uneven())
	}
}

// states are grids in which each step of Grow and of Shrink is next for 1, 1, and some others.
func states() map[string]grid.Grid {
	all := area{0, 0, end, end}
	left, right := area{0, 0, 10, end}, area{10, 0, end, end}
	return map[string]grid.Grid{
		"new":               grid.New(1),
		"with room":         gridOf(nil, nil, on(1, all, pts(1, 1, 1, 4)...)),
		"to be refined":     gridOf(tens(1), tens(1), append(each(tens(1), tens(1))[1:], on(1, area{0, 0, 10, 10}, append(pts(1, 1, 1, 4), pts(4, 5, 10, 4)...)...))...),
		"to be cut by Y":    gridOf(tens(1), nil, on(1, left, append(pts(1, 1, 1, 4), pts(4, 5, 10, 4)...)...), on(2, right)),
		"to be split":       gridOf(tens(2), nil, on(1, area{0, 0, 20, end}, append(pts(1, 1, 1, 4), pts(14, 5, 10, 4)...)...), on(2, area{20, 0, end, end})),
		"to be chained":     gridOf(nil, nil, on(1, all, pts(1, 1, 1, 8)...)),
		"full":              gridOf(tens(1), nil, part{left, numbered(40, 6), pts(1, 1, 1, 48)}, on(2, right)),
		"to be unchained":   gridOf(tens(1), nil, part{left, []int{9, 3}, pts(1, 1, 1, 4)}, on(2, right)),
		"to be merged":      gridOf(tens(1), nil, on(5, left, pt(1, 1, 1)), on(2, right, pt(14, 5, 10))),
		"to be merged left": gridOf(tens(1), nil, on(2, left, pt(1, 1, 1)), on(5, right, pt(14, 5, 10))),
		"with a chain":      gridOf(tens(1), nil, part{left, []int{9, 3}, pts(1, 1, 1, 12)}, on(2, right, pts(14, 5, 20, 3)...)),
	}
}

// calls are all ways to make a grid of another one.
func calls() map[string]func(g grid.Grid) grid.Grid {
	return map[string]func(g grid.Grid) grid.Grid{
		"Put":               func(g grid.Grid) grid.Grid { out, _ := g.Put(pt(1, 1, 60)); return out },
		"another Put":       func(g grid.Grid) grid.Grid { out, _ := g.Put(pt(1, 1, 61)); return out },
		"Put of a twin":     func(g grid.Grid) grid.Grid { out, _ := g.Put(pt(1, 1, 1)); return out },
		"Put elsewhere":     func(g grid.Grid) grid.Grid { out, _ := g.Put(pt(half, half, 62)); return out },
		"Drop":              func(g grid.Grid) grid.Grid { out, _ := g.Drop(pt(1, 1, 1)); return out },
		"Drop of none":      func(g grid.Grid) grid.Grid { out, _ := g.Drop(pt(1, 1, 99)); return out },
		"Grow":              func(g grid.Grid) grid.Grid { out, _, _ := g.Grow(1, 1, 80); return out },
		"Grow with no page": func(g grid.Grid) grid.Grid { out, _, _ := g.Grow(1, 1, 0); return out },
		"Grow elsewhere":    func(g grid.Grid) grid.Grid { out, _, _ := g.Grow(half, half, 81); return out },
		"Shrink":            func(g grid.Grid) grid.Grid { out, _, _ := g.Shrink(1, 1); return out },
		"Shrink elsewhere":  func(g grid.Grid) grid.Grid { out, _, _ := g.Shrink(half, half); return out },
	}
}

// reads are all other methods; what they return is written to.
func reads() map[string]func(g grid.Grid) {
	return map[string]func(g grid.Grid){
		"Where, Sound": func(g grid.Grid) { g.Where(1, 1); g.Sound() },
		"At":           func(g grid.Grid) { scribble(grid.Grid{R: map[int]region.Region{1: g.At(1, 1)}}) },
		"Scan": func(g grid.Grid) {
			scribble(grid.Grid{R: map[int]region.Region{1: {Points: g.Scan(api.Rect{X1: 9, Y1: 9})}}})
		},
		"All":    func(g grid.Grid) { scribble(grid.Grid{R: map[int]region.Region{1: {Points: g.All()}}}) },
		"Firsts": func(g grid.Grid) { scribble(grid.Grid{Cells: g.Firsts(), R: map[int]region.Region{}}) },
	}
}

// scribble writes to all memory of a grid, and behind it.
func scribble(g grid.Grid) {
	for i := range g.Cells[:cap(g.Cells)] {
		g.Cells[:cap(g.Cells)][i] = -7
	}
	for _, r := range g.R {
		for i := range r.Pages[:cap(r.Pages)] {
			r.Pages[:cap(r.Pages)][i] = -8
		}
		for i := range r.Points[:cap(r.Points)] {
			r.Points[:cap(r.Points)][i] = pt(7, 7, 7777)
		}
	}
	clear(g.R)
	g.R[-9] = region.Region{Box: region.Box{X1: 5}}
}

// spare returns an equal grid, behind whose lists there is memory with other elements, and a function that fails the test if the grid or that memory has changed.
func spare(g grid.Grid) (grid.Grid, func(t *testing.T, name string)) {
	out := grid.Grid{X: g.X, Y: g.Y, Cells: append(slices.Clone(g.Cells), 71, 72, 73)[:len(g.Cells)], R: map[int]region.Region{}}
	for first, r := range g.R {
		out.R[first] = region.Region{Box: r.Box,
			Pages:  append(slices.Clone(r.Pages), 91, 92)[:len(r.Pages)],
			Points: append(slices.Clone(r.Points), pt(9, 9, 901), pt(9, 9, 902))[:len(r.Points)]}
	}
	all := maps.Clone(out.R)
	return out, func(t *testing.T, name string) {
		t.Helper()
		wantGrid(t, "behind "+name+", the earlier grid", out, g)
		if !slices.Equal(out.Cells[len(out.Cells):len(out.Cells)+3], []int{71, 72, 73}) {
			t.Fatalf("%s wrote behind the cells", name)
		}
		for _, r := range all {
			n, m := len(r.Pages), len(r.Points)
			if !slices.Equal(r.Pages[n:n+2], []int{91, 92}) || r.Points[m : m+2][0].Id != 901 || r.Points[m : m+2][1].Id != 902 {
				t.Fatalf("%s wrote behind a region", name)
			}
		}
	}
}

// 17.1 and R3: every method leaves the earlier grid, and the memory behind it, as it was, also if its result is written to.
func TestValue(t *testing.T) {
	for state, base := range states() {
		for name, call := range calls() {
			g, unchanged := spare(base)
			out := call(g)
			unchanged(t, name+" of a grid "+state)
			scribble(out)
			unchanged(t, name+" of a grid "+state+", and a write to its result")
		}
		for name, read := range reads() {
			g, unchanged := spare(base)
			read(g)
			unchanged(t, name+" of a grid "+state)
		}
	}
}

// 17.1 and R3: a result does not change when the earlier grid is written to.
func TestValueApart(t *testing.T) {
	for state, base := range states() {
		for name, call := range calls() {
			want := call(copyOf(base))
			g, _ := spare(base)
			out := call(g)
			scribble(g)
			wantGrid(t, name+" of a grid "+state, out, want)
		}
		w := api.Rect{X1: 9, Y1: 9}
		g, _ := spare(base)
		r, l, some, firsts := g.At(1, 1), g.All(), g.Scan(w), g.Firsts()
		scribble(g)
		if !sameRegion(r, base.At(1, 1)) || !slices.Equal(l, base.All()) || !slices.Equal(some, base.Scan(w)) || !slices.Equal(firsts, base.Firsts()) {
			t.Errorf("a grid %s: At, All, Scan or Firsts changed with it", state)
		}
	}
}

// 17.1: two results of one grid, in either order, do not disturb each other; nor does a call on one of them.
func TestTwoResults(t *testing.T) {
	for state, base := range states() {
		for name, call := range calls() {
			for other, second := range calls() {
				where := name + " and " + other + " of a grid " + state
				wantOne, wantTwo := call(copyOf(base)), second(copyOf(base))
				wantThree := second(copyOf(wantOne))
				g, unchanged := spare(base)
				one, two := call(g), second(g)
				three := second(one)
				wantGrid(t, where+", the first result", one, wantOne)
				wantGrid(t, where+", the second result", two, wantTwo)
				wantGrid(t, where+", the one from the first", three, wantThree)
				scribble(two)
				scribble(three)
				wantGrid(t, where+", the first result, the others written to", one, wantOne)
				unchanged(t, where)
			}
		}
	}
}
