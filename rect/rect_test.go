package rect_test

import (
	"math"
	"math/big"
	"slices"
	"testing"

	"counterpane/api"
	"counterpane/rect"
)

const (
	top  = math.MaxUint32
	size = 1 << 29 // of a tile, by 4.3
)

// scales returns lists of four ascending coordinates: neighbours at both ends of their range, at an edge of tiles, and far apart.
func scales() [][]uint32 {
	return [][]uint32{
		{0, 1, 2, 3},
		{top - 3, top - 2, top - 1, top},
		{size - 2, size - 1, size, size + 1},
		{0, size, 1 << 31, top},
	}
}

// edges returns the coordinates at both ends of their range and beside all edges of tiles.
func edges() []uint32 {
	list := []uint32{0, 1, 12345, top - 1, top}
	for i := uint32(1); i < 8; i++ {
		list = append(list, i*size-1, i*size, i*size+1)
	}
	slices.Sort(list)
	return list
}

// rects returns all rectangles with edges at these coordinates, empty ones among them.
func rects(at []uint32) []api.Rect {
	var list []api.Rect
	for _, x0 := range at {
		for _, x1 := range at {
			for _, y0 := range at {
				for _, y1 := range at {
					list = append(list, api.Rect{X0: x0, Y0: y0, X1: x1, Y1: y1})
				}
			}
		}
	}
	return list
}

// points returns the points of a rectangle whose coordinates are among these, as rectangles of a single point.
func points(r api.Rect, at []uint32) []api.Rect {
	var list []api.Rect
	for _, x := range at {
		if x < r.X0 || x > r.X1 {
			continue
		}
		for _, y := range at {
			if y >= r.Y0 && y <= r.Y1 {
				list = append(list, api.Rect{X0: x, Y0: y, X1: x, Y1: y})
			}
		}
	}
	return list
}

// common returns the elements that two lists have in common.
func common(a, b []api.Rect) []api.Rect {
	var list []api.Rect
	for _, p := range a {
		if slices.Contains(b, p) {
			list = append(list, p)
		}
	}
	return list
}

// around returns the rectangle from the lowest to the highest coordinates of points.
func around(list []api.Rect) api.Rect {
	r := list[0]
	for _, p := range list {
		if p.X0 < r.X0 {
			r.X0 = p.X0
		}
		if p.Y0 < r.Y0 {
			r.Y0 = p.Y0
		}
		if p.X1 > r.X1 {
			r.X1 = p.X1
		}
		if p.Y1 > r.Y1 {
			r.Y1 = p.Y1
		}
	}
	return r
}

// touched returns the tiles that have a point in common with a rectangle, by going through all of them.
func touched(r api.Rect) []int {
	var list []int
	for row := uint64(0); row < 8; row++ {
		for column := uint64(0); column < 8; column++ {
			x0, x1 := column*size, (column+1)*size-1
			y0, y1 := row*size, (row+1)*size-1
			x := max(x0, uint64(r.X0)) <= min(x1, uint64(r.X1))
			y := max(y0, uint64(r.Y0)) <= min(y1, uint64(r.Y1))
			if x && y && r.X0 <= r.X1 && r.Y0 <= r.Y1 {
				list = append(list, int(row*8+column))
			}
		}
	}
	return list
}

// 4.1: no point, because of X, of Y and of both; one point; the edges at both ends.
func TestEmptyKnown(t *testing.T) {
	cases := []struct {
		r    api.Rect
		want bool
	}{
		{api.Rect{}, false},
		{api.Rect{X0: 5, Y0: 7, X1: 5, Y1: 7}, false},
		{api.Rect{X0: 5, Y0: 7, X1: 6, Y1: 9}, false},
		{api.Rect{X0: top, Y0: top, X1: top, Y1: top}, false},
		{api.Rect{X1: top, Y1: top}, false},
		{api.Rect{X0: 1}, true},
		{api.Rect{Y0: 1}, true},
		{api.Rect{X0: 1, Y0: 1}, true},
		{api.Rect{X0: 6, Y0: 7, X1: 5, Y1: 9}, true},
		{api.Rect{X0: 5, Y0: 10, X1: 6, Y1: 9}, true},
		{api.Rect{X0: top, Y0: 0, X1: top - 1, Y1: top}, true},
		{api.Rect{X0: 0, Y0: top, X1: top, Y1: top - 1}, true},
		{api.Rect{X0: top, Y0: top}, true},
		{api.Rect{X0: 1 << 31, X1: 1<<31 - 1}, true},
		{api.Rect{X0: 1<<31 - 1, X1: 1 << 31}, false},
		{api.Rect{Y0: 1 << 31, Y1: 1<<31 - 1}, true},
		{api.Rect{Y0: 1<<31 - 1, Y1: 1 << 31}, false},
	}
	for _, c := range cases {
		if got := rect.Empty(c.r); got != c.want {
			t.Errorf("Empty(%v) = %v", c.r, got)
		}
	}
}

// 4.1: the corners of a rectangle lie in it, and their neighbours outside do not.
func TestHasKnown(t *testing.T) {
	r := api.Rect{X0: 5, Y0: 10, X1: 7, Y1: 20}
	cases := []struct {
		x, y uint32
		want bool
	}{
		{5, 10, true}, {7, 10, true}, {5, 20, true}, {7, 20, true}, {6, 15, true},
		{4, 10, false}, {8, 10, false}, {5, 9, false}, {5, 21, false},
		{4, 15, false}, {8, 15, false}, {6, 9, false}, {6, 21, false},
		{0, 0, false}, {top, top, false}, {0, 15, false}, {top, 15, false}, {6, 0, false}, {6, top, false},
		{10, 5, false}, {15, 6, false},
	}
	for _, c := range cases {
		if got := rect.Has(r, c.x, c.y); got != c.want {
			t.Errorf("Has(%v, %d, %d) = %v", r, c.x, c.y, got)
		}
	}
}

// 4.1: a rectangle of a single point has that point and no other one.
func TestHasOfOnePoint(t *testing.T) {
	for _, at := range scales() {
		all := points(api.Rect{X1: top, Y1: top}, at)
		for _, r := range all {
			for _, p := range all {
				if got := rect.Has(r, p.X0, p.Y0); got != (r == p) {
					t.Errorf("Has(%v, %d, %d) = %v", r, p.X0, p.Y0, got)
				}
			}
		}
	}
}

// 4.1: all rectangles and points over a few coordinates; a rectangle is empty if no point lies in it.
func TestHasByPoints(t *testing.T) {
	for _, at := range scales() {
		all := points(api.Rect{X1: top, Y1: top}, at)
		for _, r := range rects(at) {
			in := points(r, at)
			for _, p := range all {
				if got, want := rect.Has(r, p.X0, p.Y0), slices.Contains(in, p); got != want {
					t.Fatalf("Has(%v, %d, %d) = %v", r, p.X0, p.Y0, got)
				}
			}
			if got, want := rect.Empty(r), len(in) == 0; got != want {
				t.Fatalf("Empty(%v) = %v", r, got)
			}
		}
	}
}

// 4.1: every point lies in the rectangle of all points.
func TestAll(t *testing.T) {
	if got := rect.All(); got != (api.Rect{X0: 0, Y0: 0, X1: top, Y1: top}) {
		t.Errorf("All() = %v", got)
	}
	if rect.Empty(rect.All()) {
		t.Error("All() is empty")
	}
	for _, x := range edges() {
		for _, y := range edges() {
			if !rect.Has(rect.All(), x, y) {
				t.Errorf("All() does not have (%d, %d)", x, y)
			}
		}
	}
}

// pairs returns two rectangles each with what 4.2 says of them.
func pairs() []struct {
	name          string
	a, b          api.Rect
	meet          api.Rect
	meets, within bool
	hull          api.Rect
} {
	one := api.Rect{X0: 10, Y0: 10, X1: 20, Y1: 20}
	all := api.Rect{X1: top, Y1: top}
	corner := api.Rect{X0: top, Y0: top, X1: top, Y1: top}
	noX := api.Rect{X0: 15, Y0: 12, X1: 12, Y1: 18}
	noY := api.Rect{X0: 12, Y0: 15, X1: 18, Y1: 12}
	far := api.Rect{X0: 100, Y0: 100, X1: 0, Y1: 0}
	return []struct {
		name          string
		a, b          api.Rect
		meet          api.Rect
		meets, within bool
		hull          api.Rect
	}{
		{"the same", one, one, one, true, true, one},
		{"overlapping", one, api.Rect{X0: 15, Y0: 5, X1: 30, Y1: 12}, api.Rect{X0: 15, Y0: 10, X1: 20, Y1: 12}, true, false, api.Rect{X0: 10, Y0: 5, X1: 30, Y1: 20}},
		{"inside", api.Rect{X0: 11, Y0: 12, X1: 13, Y1: 14}, one, api.Rect{X0: 11, Y0: 12, X1: 13, Y1: 14}, true, true, one},
		{"around", one, api.Rect{X0: 11, Y0: 12, X1: 13, Y1: 14}, api.Rect{X0: 11, Y0: 12, X1: 13, Y1: 14}, true, false, one},
		{"crossing", one, api.Rect{X0: 12, Y0: 0, X1: 13, Y1: 40}, api.Rect{X0: 12, Y0: 10, X1: 13, Y1: 20}, true, false, api.Rect{X0: 10, Y0: 0, X1: 20, Y1: 40}},
		{"a common edge", one, api.Rect{X0: 20, Y0: 10, X1: 30, Y1: 20}, api.Rect{X0: 20, Y0: 10, X1: 20, Y1: 20}, true, false, api.Rect{X0: 10, Y0: 10, X1: 30, Y1: 20}},
		{"a common corner", one, api.Rect{X0: 20, Y0: 20, X1: 30, Y1: 30}, api.Rect{X0: 20, Y0: 20, X1: 20, Y1: 20}, true, false, api.Rect{X0: 10, Y0: 10, X1: 30, Y1: 30}},
		{"side by side", one, api.Rect{X0: 21, Y0: 10, X1: 30, Y1: 20}, api.Rect{X0: 21, Y0: 10, X1: 20, Y1: 20}, false, false, api.Rect{X0: 10, Y0: 10, X1: 30, Y1: 20}},
		{"one above the other", one, api.Rect{X0: 10, Y0: 21, X1: 20, Y1: 30}, api.Rect{X0: 10, Y0: 21, X1: 20, Y1: 20}, false, false, api.Rect{X0: 10, Y0: 10, X1: 20, Y1: 30}},
		{"apart", one, corner, api.Rect{X0: top, Y0: top, X1: 20, Y1: 20}, false, false, api.Rect{X0: 10, Y0: 10, X1: top, Y1: top}},
		{"one point of it", api.Rect{X0: 20, Y0: 10, X1: 20, Y1: 10}, one, api.Rect{X0: 20, Y0: 10, X1: 20, Y1: 10}, true, true, one},
		{"the points at both ends", api.Rect{}, corner, api.Rect{X0: top, Y0: top, X1: 0, Y1: 0}, false, false, all},
		{"in all", corner, all, corner, true, true, all},
		{"all", all, all, all, true, true, all},
		{"all in one", all, one, one, true, false, all},
		{"first without X", noX, one, noX, false, true, one},
		{"first without Y", noY, one, noY, false, true, one},
		{"first without both, beyond the second", far, one, far, false, true, one},
		{"second without X", one, noX, noX, false, false, one},
		{"second without Y", one, noY, noY, false, false, one},
		{"second without both, beyond the first", one, far, far, false, false, one},
		{"both empty, without X and Y", noX, noY, api.Rect{X0: 15, Y0: 15, X1: 12, Y1: 12}, false, true, noY},
		{"both empty, without Y and X", noY, noX, api.Rect{X0: 15, Y0: 15, X1: 12, Y1: 12}, false, true, noX},
		{"both empty, without Y and both", noY, far, far, false, true, far},
		{"both empty, without both and X", far, noX, far, false, true, noX},
		{"empty, the same", noX, noX, noX, false, true, noX},
	}
}

// 4.2: pairs of rectangles of all kinds, empty ones too.
func TestPairsKnown(t *testing.T) {
	for _, c := range pairs() {
		if got := rect.Meet(c.a, c.b); got != c.meet {
			t.Errorf("%s: Meet(%v, %v) = %v, want %v", c.name, c.a, c.b, got, c.meet)
		}
		if got := rect.Meets(c.a, c.b); got != c.meets {
			t.Errorf("%s: Meets(%v, %v) = %v", c.name, c.a, c.b, got)
		}
		if got := rect.Within(c.a, c.b); got != c.within {
			t.Errorf("%s: Within(%v, %v) = %v", c.name, c.a, c.b, got)
		}
		if got := rect.Hull(c.a, c.b); got != c.hull {
			t.Errorf("%s: Hull(%v, %v) = %v, want %v", c.name, c.a, c.b, got, c.hull)
		}
	}
}

// checkMeet checks the edges of Meet(a, b), and that it has the points that both have.
func checkMeet(t *testing.T, a, b api.Rect, in []api.Rect, at []uint32) {
	t.Helper()
	got := rect.Meet(a, b)
	x := []uint32{a.X0, b.X0, a.X1, b.X1}
	y := []uint32{a.Y0, b.Y0, a.Y1, b.Y1}
	want := api.Rect{X0: slices.Max(x[:2]), Y0: slices.Max(y[:2]), X1: slices.Min(x[2:]), Y1: slices.Min(y[2:])}
	if got != want || !slices.Equal(points(got, at), in) {
		t.Fatalf("Meet(%v, %v) = %v, want %v", a, b, got, want)
	}
}

// 4.2: all pairs of rectangles over a few coordinates, held against the points that they have.
func TestPairsByPoints(t *testing.T) {
	for _, at := range scales() {
		list := rects(at)
		for _, a := range list {
			inA := points(a, at)
			for _, b := range list {
				inB := points(b, at)
				both := common(inA, inB)
				checkMeet(t, a, b, both, at)
				if got := rect.Meets(a, b); got != (len(both) > 0) {
					t.Fatalf("Meets(%v, %v) = %v", a, b, got)
				}
				if got := rect.Within(a, b); got != (len(both) == len(inA)) {
					t.Fatalf("Within(%v, %v) = %v", a, b, got)
				}
				want := b
				switch {
				case len(inA) > 0 && len(inB) == 0:
					want = a
				case len(inA) > 0:
					want = around(append(slices.Clone(inA), inB...))
				}
				if got := rect.Hull(a, b); got != want {
					t.Fatalf("Hull(%v, %v) = %v, want %v", a, b, got, want)
				}
			}
		}
	}
}

// 4.3: eight columns and rows.
func TestConstants(t *testing.T) {
	if rect.Side != 8 || rect.Tiles != 64 {
		t.Errorf("Side = %d, Tiles = %d", rect.Side, rect.Tiles)
	}
}

// 4.3: the chapter's example, the corners of the plane, and both sides of edges of tiles.
func TestTileKnown(t *testing.T) {
	cases := []struct {
		x, y uint32
		want int
	}{
		{1 << 29, 1 << 30, 17},
		{0, 0, 0}, {top, 0, 7}, {0, top, 56}, {top, top, 63},
		{size - 1, 0, 0}, {size, 0, 1}, {0, size - 1, 0}, {0, size, 8},
		{size, size, 9}, {size - 1, size, 8}, {size, size - 1, 1},
		{1<<31 - 1, 1<<31 - 1, 27}, {1 << 31, 1<<31 - 1, 28}, {1<<31 - 1, 1 << 31, 35}, {1 << 31, 1 << 31, 36},
		{7*size - 1, 7 * size, 62}, {7 * size, 7*size - 1, 55},
	}
	for _, c := range cases {
		if got := rect.Tile(c.x, c.y); got != c.want {
			t.Errorf("Tile(%d, %d) = %d, want %d", c.x, c.y, got, c.want)
		}
	}
}

// 4.3: eight times the row plus the column, by division.
func TestTileByDefinition(t *testing.T) {
	for _, x := range edges() {
		for _, y := range edges() {
			want := 8*(int64(y)/size) + int64(x)/size
			if got := rect.Tile(x, y); int64(got) != want {
				t.Errorf("Tile(%d, %d) = %d, want %d", x, y, got, want)
			}
		}
	}
}

// 4.3: tiles at the corners of the plane, and the one of the chapter's example.
func TestOfKnown(t *testing.T) {
	cases := []struct {
		t    int
		want api.Rect
	}{
		{0, api.Rect{X0: 0, Y0: 0, X1: 0x1fffffff, Y1: 0x1fffffff}},
		{1, api.Rect{X0: 0x20000000, Y0: 0, X1: 0x3fffffff, Y1: 0x1fffffff}},
		{7, api.Rect{X0: 0xe0000000, Y0: 0, X1: top, Y1: 0x1fffffff}},
		{8, api.Rect{X0: 0, Y0: 0x20000000, X1: 0x1fffffff, Y1: 0x3fffffff}},
		{17, api.Rect{X0: 0x20000000, Y0: 0x40000000, X1: 0x3fffffff, Y1: 0x5fffffff}},
		{56, api.Rect{X0: 0, Y0: 0xe0000000, X1: 0x1fffffff, Y1: top}},
		{63, api.Rect{X0: 0xe0000000, Y0: 0xe0000000, X1: top, Y1: top}},
	}
	for _, c := range cases {
		if got := rect.Of(c.t); got != c.want {
			t.Errorf("Of(%d) = %v, want %v", c.t, got, c.want)
		}
	}
}

// 4.3: every tile is 2^29 wide and high, in its column and row.
func TestOfByDefinition(t *testing.T) {
	for i := range 64 {
		column, row := uint64(i)%8, uint64(i)/8
		r := rect.Of(i)
		if uint64(r.X0) != column*size || uint64(r.X1) != (column+1)*size-1 || uint64(r.Y0) != row*size || uint64(r.Y1) != (row+1)*size-1 {
			t.Errorf("Of(%d) = %v", i, r)
		}
	}
}

// 4.3: there is no tile beyond both ends of the numbers, however far.
func TestOfNone(t *testing.T) {
	for _, i := range []int{-1, -2, -8, -9, -63, -64, -65, 64, 65, 71, 72, 127, 128, 256, 1 << 16, 1 << 32, 1<<32 + 17, -1 << 32, math.MinInt, math.MaxInt} {
		if got := rect.Of(i); !rect.Empty(got) || rect.Count(got) != 0 {
			t.Errorf("Of(%d) = %v, which has points", i, got)
		}
	}
}

// 4.3: the chapter's example, one tile, a row, a column, a corner of four, and empty rectangles.
func TestTouchedKnown(t *testing.T) {
	var every []int
	for i := range 64 {
		every = append(every, i)
	}
	cases := []struct {
		r    api.Rect
		want []int
	}{
		{rect.All(), every},
		{api.Rect{}, []int{0}},
		{api.Rect{X0: top, Y0: top, X1: top, Y1: top}, []int{63}},
		{rect.Of(17), []int{17}},
		{api.Rect{X0: size - 1, Y0: 5, X1: size, Y1: 5}, []int{0, 1}},
		{api.Rect{X0: 5, Y0: size - 1, X1: 5, Y1: size}, []int{0, 8}},
		{api.Rect{X0: size - 1, Y0: size - 1, X1: size, Y1: size}, []int{0, 1, 8, 9}},
		{api.Rect{X0: size, Y0: size, X1: 3 * size, Y1: 2*size + 5}, []int{9, 10, 11, 17, 18, 19}},
		{api.Rect{X0: 0, Y0: 5, X1: top, Y1: 6}, []int{0, 1, 2, 3, 4, 5, 6, 7}},
		{api.Rect{X0: top, Y0: 0, X1: top, Y1: top}, []int{7, 15, 23, 31, 39, 47, 55, 63}},
		{api.Rect{X0: 2, X1: 1}, nil},
		{api.Rect{Y0: 2, Y1: 1}, nil},
		{api.Rect{X0: 2, X1: 1, Y1: top}, nil},
		{api.Rect{Y0: 2, Y1: 1, X1: top}, nil},
		{api.Rect{X0: top, Y0: top}, nil},
		{api.Rect{X0: 3 * size, X1: size, Y1: top}, nil},
		{api.Rect{Y0: 3 * size, Y1: size, X1: top}, nil},
	}
	for _, c := range cases {
		if got := slices.Collect(rect.Touched(c.r)); !slices.Equal(got, c.want) {
			t.Errorf("Touched(%v) = %v, want %v", c.r, got, c.want)
		}
		if got := rect.Count(c.r); got != len(c.want) {
			t.Errorf("Count(%v) = %d, want %d", c.r, got, len(c.want))
		}
	}
}

// 4.3: the tiles with a common point, ascending, of rectangles with edges at both ends and beside the edges of tiles.
func TestTouchedByDefinition(t *testing.T) {
	at := []uint32{0, size - 1, size, 2*size + 7, 4*size - 1, 4 * size, 7*size - 1, 7 * size, top}
	for _, r := range rects(at) {
		want := touched(r)
		if got := slices.Collect(rect.Touched(r)); !slices.Equal(got, want) {
			t.Fatalf("Touched(%v) = %v, want %v", r, got, want)
		}
		if got := rect.Count(r); got != len(want) {
			t.Fatalf("Count(%v) = %d, want %d", r, got, len(want))
		}
	}
}

// 4.3: an iterator that is left early, after every number of tiles, visits none after that, and begins again from the first one.
func TestTouchedLeft(t *testing.T) {
	for _, r := range []api.Rect{rect.All(), rect.Of(17), {X0: size, Y0: size, X1: 3 * size, Y1: 2*size + 5}} {
		all := touched(r)
		tiles := rect.Touched(r)
		for n := 1; n <= len(all); n++ {
			var got []int
			tiles(func(i int) bool {
				got = append(got, i)
				return len(got) < n
			})
			if !slices.Equal(got, all[:n]) {
				t.Errorf("Touched(%v), left after %d tiles: %v", r, n, got)
			}
		}
		if got := slices.Collect(tiles); !slices.Equal(got, all) {
			t.Errorf("Touched(%v) once more: %v", r, got)
		}
	}
}

// 4.3 and P6: two iterations over one iterator do not disturb each other.
func TestTouchedNested(t *testing.T) {
	tiles := rect.Touched(api.Rect{X0: size - 1, Y0: size - 1, X1: size, Y1: size})
	var got []int
	for a := range tiles {
		for b := range tiles {
			got = append(got, 100*a+b)
		}
	}
	want := []int{0, 1, 8, 9, 100, 101, 108, 109, 800, 801, 808, 809, 900, 901, 908, 909}
	if !slices.Equal(got, want) {
		t.Errorf("nested: %v", got)
	}
}

// 4.4: each point lies in exactly one tile, the one that Tile returns.
func TestOneTileOfPoint(t *testing.T) {
	for _, x := range edges() {
		for _, y := range edges() {
			var in []int
			for i := range rect.Tiles {
				if rect.Has(rect.Of(i), x, y) {
					in = append(in, i)
				}
			}
			if !slices.Equal(in, []int{rect.Tile(x, y)}) {
				t.Errorf("(%d, %d) lies in the tiles %v, Tile = %d", x, y, in, rect.Tile(x, y))
			}
		}
	}
}

// 4.4: no two tiles have a common point, and together they have as many points as the plane.
func TestTilesDividePlane(t *testing.T) {
	sum := new(big.Int)
	for i := range rect.Tiles {
		a := rect.Of(i)
		width := big.NewInt(int64(a.X1) - int64(a.X0) + 1)
		height := big.NewInt(int64(a.Y1) - int64(a.Y0) + 1)
		sum.Add(sum, width.Mul(width, height))
		for j := range i {
			if rect.Meets(a, rect.Of(j)) {
				t.Errorf("tiles %d and %d have a common point", i, j)
			}
		}
	}
	if plane := new(big.Int).Lsh(big.NewInt(1), 64); sum.Cmp(plane) != 0 {
		t.Errorf("the tiles have %v points, the plane %v", sum, plane)
	}
}

// 4.4: the tiles of the points of a rectangle are those that it touches.
func TestPointsLieInTouched(t *testing.T) {
	at := []uint32{0, size - 1, size, 2 * size, 3*size - 1, 3*size + 1, 5 * size}
	fine := edges()
	for _, r := range rects(at) {
		seen := make([]bool, rect.Tiles)
		for _, p := range points(r, fine) {
			seen[rect.Tile(p.X0, p.Y0)] = true
		}
		var want []int
		for i, found := range seen {
			if found {
				want = append(want, i)
			}
		}
		if got := slices.Collect(rect.Touched(r)); !slices.Equal(got, want) {
			t.Fatalf("Touched(%v) = %v, its points lie in %v", r, got, want)
		}
	}
}
