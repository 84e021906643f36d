package region_test

import (
	"maps"
	"math"
	"slices"
	"testing"

	"counterpane/api"
	"counterpane/region"
)

// point returns a point whose fields all differ from those of the points with other numbers, and from each other.
func point(n int) api.Point {
	return api.Point{X: uint32(n)*0x04030201 + 1, Y: uint32(n)*0x01020304 + 2, Id: uint64(n)*0x0101010101010101 + 3, Key: uint64(n)*0x0807060504030201 + 4}
}

// points returns the points with the numbers from 0 to n-1.
func points(n int) []api.Point {
	var l []api.Point
	for i := range n {
		l = append(l, point(i))
	}
	return l
}

// with returns a region of these pages with so many points.
func with(n int, pages ...int) region.Region {
	return region.Region{Box: box(1, 2, 4, 8), Pages: pages, Points: points(n)}
}

// numbered returns n pages, the first one with this number, each number one less than the one ahead of it.
func numbered(first, n int) []int {
	var l []int
	for i := range n {
		l = append(l, first-i)
	}
	return l
}

// copyOf returns a region that shares no memory with r.
func copyOf(r region.Region) region.Region {
	return region.Region{Box: r.Box, Pages: slices.Clone(r.Pages), Points: slices.Clone(r.Points)}
}

func same(a, b region.Region) bool {
	return a.Box == b.Box && slices.Equal(a.Pages, b.Pages) && slices.Equal(a.Points, b.Points)
}

func wantRegion(t *testing.T, name string, got, want region.Region) {
	t.Helper()
	if !same(got, want) {
		t.Fatalf("%s: %v, want %v", name, got, want)
	}
}

// laid returns a page, put together byte by byte.
func laid(next byte, l ...api.Point) api.Page {
	b := []byte{82, next, byte(len(l))}
	big := func(n uint64, size int) {
		for i := size - 1; i >= 0; i-- {
			b = append(b, byte(n>>(8*i)))
		}
	}
	for _, p := range l {
		big(uint64(p.X), 4)
		big(uint64(p.Y), 4)
		big(p.Id, 8)
		big(p.Key, 8)
	}
	var p api.Page
	copy(p[:], b)
	return p
}

// disk is pages by their numbers.
type disk map[int]api.Page

func (d disk) at(n int) (api.Page, bool) {
	p, ok := d[n]
	return p, ok
}

// diskOf returns the pages of all regions.
func diskOf(l ...region.Region) disk {
	d := disk{}
	for _, r := range l {
		for _, image := range r.Put() {
			d[image.Page] = image.P
		}
	}
	return d
}

// but returns the pages with another one at this number.
func (d disk) but(n int, p api.Page) disk {
	out := maps.Clone(d)
	out[n] = p
	return out
}

func wantGet(t *testing.T, d disk, first int, want region.Region) {
	t.Helper()
	got, ok := region.Get(want.Box, first, d.at)
	if !ok || !same(got, want) {
		t.Fatalf("Get(%d) = %v, %v, want %v", first, got, ok, want)
	}
}

func wantNone(t *testing.T, name string, d disk, first int) {
	t.Helper()
	got, ok := region.Get(box(1, 2, 4, 8), first, d.at)
	if ok || got.Box != (region.Box{}) || len(got.Pages) != 0 || len(got.Points) != 0 {
		t.Errorf("%s: Get(%d) = %v, %v, want none", name, first, got, ok)
	}
}

// noise returns a function that returns numbers in [0, n) that look like random ones.
func noise(seed uint64) func(n int) int {
	return func(n int) int {
		seed = seed*6364136223846793005 + 1442695040888963407
		return int(seed>>33) % n
	}
}

// anyRegion returns a region that Put takes, with at most so many pages.
func anyRegion(next func(int) int, most int) region.Region {
	r := region.Region{Box: box(next(4), next(4), 4+next(5), 4+next(5))}
	numbers := numbered(255, 255)
	for range 1 + next(most) {
		i := next(len(numbers))
		r.Pages = append(r.Pages, numbers[i])
		numbers = slices.Delete(numbers, i, i+1)
	}
	for range next(8*len(r.Pages) + 1) {
		r.Points = append(r.Points, anyPoint(next))
	}
	return r
}

// anyPoint returns a point; some of its fields are often those of another one.
func anyPoint(next func(int) int) api.Point {
	numbers := []uint64{0, 1, 0x0102030405060708, 1 << 40, math.MaxUint64}
	return api.Point{X: uint32(numbers[next(5)]), Y: uint32(numbers[next(5)]), Id: numbers[next(5)], Key: numbers[next(5)]}
}

// 16.3: eight for each page, less the points.
func TestRoom(t *testing.T) {
	for _, c := range []struct {
		r    region.Region
		want int
	}{
		{region.Region{}, 0},
		{region.Region{Pages: []int{}, Points: []api.Point{}}, 0},
		{with(0, 4), 8},
		{with(1, 4), 7},
		{with(7, 4), 1},
		{with(8, 4), 0},
		{with(0, 4, 9), 16},
		{with(8, 4, 9), 8},
		{with(11, 4, 9), 5},
		{with(16, 4, 9), 0},
		{with(0, numbered(200, 6)...), 48},
		{with(47, numbered(200, 6)...), 1},
		{with(48, numbered(200, 6)...), 0},
		{with(0, numbered(200, 7)...), 56},
		{with(1), -1},
		{with(11, 4), -3},
	} {
		if got := c.r.Room(); got != c.want {
			t.Errorf("Room of %d pages with %d points = %d, want %d", len(c.r.Pages), len(c.r.Points), got, c.want)
		}
	}
}

// 16.3: the Box does not count.
func TestRoomOfBoxes(t *testing.T) {
	for _, b := range rightBoxes() {
		r := region.Region{Box: b, Pages: []int{1, 2}, Points: points(3)}
		if got := r.Room(); got != 13 {
			t.Errorf("Room = %d, want 13", got)
		}
	}
}

// 16.3: what Add returns is the region with the point behind the others.
func TestAdd(t *testing.T) {
	for _, b := range []region.Box{box(0, 0, 1, 1), box(2, 0, 8, 5), {}} {
		r := region.Region{Box: b, Pages: []int{200, 3}}
		for i := range 16 {
			s, code := r.Add(point(i))
			if code != api.OK {
				t.Fatalf("Add of point %d: code %d", i, code)
			}
			wantRegion(t, "Add", s, region.Region{Box: b, Pages: []int{200, 3}, Points: points(i + 1)})
			r = s
		}
		if r.Room() != 0 {
			t.Errorf("Room = %d behind 16 points", r.Room())
		}
	}
}

// beside returns the points that differ from p in one field alone, by that field.
func beside(p api.Point) map[string]api.Point {
	x, y, id, key := p, p, p, p
	x.X++
	y.Y--
	id.Id += 1 << 32
	key.Key -= 1 << 63
	return map[string]api.Point{"X": x, "Y": y, "Id": id, "Key": key}
}

// 16.3: a point that differs from one that is there in a single field is another one.
func TestAddBeside(t *testing.T) {
	for at := range 5 {
		for field, p := range beside(point(at)) {
			got, code := with(5, 4).Add(p)
			if code != api.OK {
				t.Errorf("Add of a point with another %s: code %d", field, code)
			}
			want := with(5, 4)
			want.Points = append(want.Points, p)
			wantRegion(t, "Add of a point with another "+field, got, want)
		}
	}
}

// 16.3: the zero point is a point.
func TestAddZero(t *testing.T) {
	r, code := region.Region{Pages: []int{1}}.Add(api.Point{})
	if code != api.OK || len(r.Points) != 1 {
		t.Fatalf("Add of the zero point: %v, %d", r, code)
	}
	if _, code := r.Add(api.Point{}); code != api.ErrTwice {
		t.Errorf("Add of the zero point again: code %d", code)
	}
	if s, ok := r.Drop(api.Point{}); !ok || len(s.Points) != 0 {
		t.Errorf("Drop of the zero point: %v, %v", s, ok)
	}
}

// 16.3 and R6: each code alone, and of both the first; the region beside it is unchanged.
func TestAddRejects(t *testing.T) {
	for _, c := range []struct {
		name string
		r    region.Region
		p    api.Point
		want api.Code
	}{
		{"room for one more", with(7, 4), point(90), api.OK},
		{"room on the second page", with(8, 4, 9), point(90), api.OK},
		{"room for one more on six pages", with(47, numbered(9, 6)...), point(90), api.OK},
		{"a seventh page", with(48, numbered(9, 7)...), point(90), api.OK},
		{"full", with(8, 4), point(90), api.ErrFull},
		{"no pages", region.Region{}, point(90), api.ErrFull},
		{"two full pages", with(16, 4, 9), point(90), api.ErrFull},
		{"six full pages", with(48, numbered(9, 6)...), point(90), api.ErrFull},
		{"more points than room", with(11, 4), point(90), api.ErrFull},
		{"the first point again", with(5, 4), point(0), api.ErrTwice},
		{"a middle point again", with(5, 4), point(2), api.ErrTwice},
		{"the last point again", with(5, 4), point(4), api.ErrTwice},
		{"a point of the first page again", with(11, 4, 9), point(1), api.ErrTwice},
		{"a point of the second page again", with(11, 4, 9), point(9), api.ErrTwice},
		{"full, and the first point again", with(8, 4), point(0), api.ErrFull},
		{"full, and the last point again", with(8, 4), point(7), api.ErrFull},
		{"two full pages, and a point again", with(16, 4, 9), point(15), api.ErrFull},
		{"more points than room, and a point again", with(11, 4), point(3), api.ErrFull},
	} {
		before, want := copyOf(c.r), copyOf(c.r)
		if c.want == api.OK {
			want.Points = append(want.Points, c.p)
		}
		got, code := c.r.Add(c.p)
		if code != c.want {
			t.Errorf("%s: code %d, want %d", c.name, code, c.want)
		}
		wantRegion(t, c.name, got, want)
		wantRegion(t, c.name+", the earlier region", c.r, before)
	}
}

// 16.3: the point is gone, the others stay in their order.
func TestDrop(t *testing.T) {
	for n := 1; n <= 16; n++ {
		r := with(n, 4, 9)
		for i := range n {
			got, ok := r.Drop(point(i))
			want := with(n, 4, 9)
			want.Points = slices.Delete(want.Points, i, i+1)
			if !ok {
				t.Errorf("Drop of point %d of %d is false", i, n)
			}
			wantRegion(t, "Drop", got, want)
			wantRegion(t, "the earlier region", r, with(n, 4, 9))
		}
	}
}

// 16.3: a point that was dropped is not there, and can be added, behind the others.
func TestDropAndAdd(t *testing.T) {
	for i := range 8 {
		less, _ := with(8, 4).Drop(point(i))
		if _, ok := less.Drop(point(i)); ok {
			t.Errorf("point %d is dropped twice", i)
		}
		back, code := less.Add(point(i))
		want := with(8, 4)
		want.Points = append(slices.Delete(want.Points, i, i+1), point(i))
		if code != api.OK {
			t.Errorf("Add behind Drop: code %d", code)
		}
		wantRegion(t, "Add behind Drop", back, want)
	}
}

// 16.3 and R6: of points that are equal, which Add does not let in, the first one is gone.
func TestDropFirst(t *testing.T) {
	r := region.Region{Pages: []int{4}, Points: []api.Point{point(1), point(2), point(1), point(3), point(1)}}
	for _, want := range [][]api.Point{
		{point(2), point(1), point(3), point(1)},
		{point(2), point(3), point(1)},
		{point(2), point(3)},
	} {
		got, ok := r.Drop(point(1))
		if !ok || !slices.Equal(got.Points, want) {
			t.Fatalf("Drop = %v, %v, want %v", got, ok, want)
		}
		r = got
	}
}

// 16.3: of a point that is not there, or differs in one field from one that is, the unchanged region and false.
func TestDropNone(t *testing.T) {
	for _, r := range []region.Region{{}, with(0, 4), with(1, 4), with(8, 4), with(11, 4, 9), with(16, 4, 9), with(3)} {
		absent := []api.Point{{}, point(90), {X: point(0).X}, {Id: point(0).Id}}
		for _, p := range r.Points {
			absent = slices.AppendSeq(absent, maps.Values(beside(p)))
		}
		for _, p := range absent {
			before := copyOf(r)
			got, ok := r.Drop(p)
			if ok {
				t.Errorf("Drop of %v, which is not there, is true", p)
			}
			wantRegion(t, "Drop", got, before)
			wantRegion(t, "the earlier region", r, before)
		}
	}
}

// spare returns r with the same pages and points, behind which there is memory with others, and a function that fails the test if r or that memory has changed.
func spare(r region.Region) (region.Region, func(t *testing.T, name string)) {
	allPoints := append(slices.Clone(r.Points), point(1001), point(1002), point(1003))
	allPages := append(slices.Clone(r.Pages), 251, 252, 253)
	keptPoints, keptPages := slices.Clone(allPoints), slices.Clone(allPages)
	out := region.Region{Box: r.Box, Pages: allPages[:len(r.Pages)], Points: allPoints[:len(r.Points)]}
	return out, func(t *testing.T, name string) {
		t.Helper()
		if !slices.Equal(allPoints, keptPoints) || !slices.Equal(allPages, keptPages) || !same(out, r) {
			t.Fatalf("%s changed the earlier region, or the memory behind it: %v, %v", name, allPoints, allPages)
		}
	}
}

// scribble writes to all memory of a region, and behind it.
func scribble(r region.Region) {
	for i := range r.Pages[:cap(r.Pages)] {
		r.Pages[:cap(r.Pages)][i] = -7
	}
	for i := range r.Points[:cap(r.Points)] {
		r.Points[:cap(r.Points)][i] = point(7777)
	}
}

// calls are all ways to make a region of another one with the points 0 to 7.
func calls() map[string]func(r region.Region) region.Region {
	add := func(p api.Point) func(r region.Region) region.Region {
		return func(r region.Region) region.Region { s, _ := r.Add(p); return s }
	}
	drop := func(p api.Point) func(r region.Region) region.Region {
		return func(r region.Region) region.Region { s, _ := r.Drop(p); return s }
	}
	return map[string]func(r region.Region) region.Region{
		"Add":               add(point(50)),
		"another Add":       add(point(51)),
		"Add twice":         add(point(3)),
		"Drop of the first": drop(point(0)),
		"Drop of a middle":  drop(point(4)),
		"Drop of the last":  drop(point(7)),
		"Drop of none":      drop(point(99)),
		"Room":              func(r region.Region) region.Region { r.Room(); return copyOf(r) },
		"Put":               func(r region.Region) region.Region { r.Put(); return copyOf(r) },
	}
}

// 16.3 and R3: every method leaves the earlier region, and the memory behind it, as it was, also if its result is written to.
func TestValue(t *testing.T) {
	for name, call := range calls() {
		for _, pages := range [][]int{{4, 9}, {4}} { // with room, and full
			r, unchanged := spare(with(8, pages...))
			out := call(r)
			unchanged(t, name)
			scribble(out)
			unchanged(t, name+", and a write to its result,")
		}
	}
}

// 16.3 and R3: a result does not change when the earlier region is written to.
func TestValueApart(t *testing.T) {
	for name, call := range calls() {
		for _, pages := range [][]int{{4, 9}, {4}} {
			want := call(with(8, pages...))
			r, _ := spare(with(8, pages...))
			out := call(r)
			scribble(r)
			wantRegion(t, name, out, want)
		}
	}
}

// 16.3: two results of one region, in either order, do not disturb each other; nor does a call on one of them.
func TestTwoResults(t *testing.T) {
	for name, call := range calls() {
		for other, second := range calls() {
			wantOne, wantTwo := call(with(8, 4, 9)), second(with(8, 4, 9))
			wantThree := second(call(with(8, 4, 9)))
			r, unchanged := spare(with(8, 4, 9))
			one, two := call(r), second(r)
			three := second(one)
			wantRegion(t, name+" ahead of "+other, one, wantOne)
			wantRegion(t, other+" behind "+name, two, wantTwo)
			wantRegion(t, other+" of "+name, three, wantThree)
			scribble(two)
			scribble(three)
			wantRegion(t, name+", the others written to", one, wantOne)
			unchanged(t, name+" and "+other)
		}
	}
}

// 16.3: points that were added to results of the same calls are not each other's.
func TestBranches(t *testing.T) {
	for n := range 16 {
		r := with(0, 4, 9)
		for _, p := range points(n) {
			r, _ = r.Add(p)
		}
		one, _ := r.Add(point(100))
		two, _ := r.Add(point(200))
		if one.Points[n] != point(100) || two.Points[n] != point(200) || len(r.Points) != n {
			t.Errorf("with %d points, two additions are %v and %v", n, one, two)
		}
		if n == 0 {
			continue
		}
		less, _ := r.Drop(point(n - 1))
		more, _ := less.Add(point(300))
		again, _ := less.Add(point(400))
		if !slices.Equal(r.Points, points(n)) || more.Points[n-1] != point(300) || again.Points[n-1] != point(400) {
			t.Errorf("with %d points, an addition behind Drop changed the earlier region: %v", n, r)
		}
	}
}

// 16.3, P6: random calls, held against plain lists; all earlier regions stay as they were.
func TestRandomCalls(t *testing.T) {
	next := noise(16)
	for range 300 {
		r := region.Region{Box: box(0, 0, 1+next(8), 1+next(8)), Pages: numbered(4+next(200), next(4))}
		var earlier, copies []region.Region
		for range 80 {
			earlier, copies = append(earlier, r), append(copies, copyOf(r))
			r = randomCall(t, next, r)
		}
		for i := range earlier {
			wantRegion(t, "an earlier region", earlier[i], copies[i])
		}
	}
}

// randomCall makes a call on r, and returns what the call must return.
func randomCall(t *testing.T, next func(int) int, r region.Region) region.Region {
	t.Helper()
	p := api.Point{X: uint32(next(3)), Y: uint32(next(3)), Id: uint64(next(3)), Key: uint64(next(2))}
	want, at := copyOf(r), -1
	for i, q := range r.Points {
		if q.X == p.X && q.Y == p.Y && q.Id == p.Id && q.Key == p.Key {
			at = i
		}
	}
	if r.Room() != 8*len(r.Pages)-len(r.Points) {
		t.Fatalf("%v: Room = %d", r, r.Room())
	}
	if next(3) == 0 {
		if len(r.Points) > 0 && next(2) == 0 {
			at = next(len(r.Points))
			p = r.Points[at]
		}
		if at >= 0 {
			want.Points = slices.Delete(want.Points, at, at+1)
		}
		got, ok := r.Drop(p)
		if ok != (at >= 0) || !same(got, want) {
			t.Fatalf("%v: Drop(%v) = %v, %v", r, p, got, ok)
		}
		return got
	}
	wantCode := api.OK
	switch {
	case len(r.Points) >= 8*len(r.Pages):
		wantCode = api.ErrFull
	case at >= 0:
		wantCode = api.ErrTwice
	default:
		want.Points = append(want.Points, p)
	}
	got, code := r.Add(p)
	if code != wantCode || !same(got, want) {
		t.Fatalf("%v: Add(%v) = %v, %d, want code %d", r, p, got, code, wantCode)
	}
	return got
}

func wantPut(t *testing.T, r region.Region, want ...api.Image) {
	t.Helper()
	if got := r.Put(); !slices.Equal(got, want) {
		t.Fatalf("Put of %v = %v, want %v", r, got, want)
	}
}

// 16.4: every byte of one page, with no points, some, and as many as it has room for.
func TestPutOnePage(t *testing.T) {
	for n := range 9 {
		for page := 1; page <= 255; page++ {
			r := with(n, page)
			wantPut(t, r, api.Image{Page: page, P: laid(0, r.Points...)})
		}
	}
}

// 16.4: the bytes of a page, written out.
func TestPutBytes(t *testing.T) {
	r := region.Region{Pages: []int{7, 200}, Points: []api.Point{{X: 0x21222324, Y: 0x31323334, Id: 0x0102030405060708, Key: 0x1112131415161718}, {X: 1, Y: 2, Id: 3, Key: 4}}}
	wantPut(t, r,
		api.Image{Page: 7, P: api.Page{'R', 200, 2,
			0x21, 0x22, 0x23, 0x24, 0x31, 0x32, 0x33, 0x34, 1, 2, 3, 4, 5, 6, 7, 8, 0x11, 0x12, 0x13, 0x14, 0x15, 0x16, 0x17, 0x18,
			0, 0, 0, 1, 0, 0, 0, 2, 0, 0, 0, 0, 0, 0, 0, 3, 0, 0, 0, 0, 0, 0, 0, 4}},
		api.Image{Page: 200, P: api.Page{'R'}})
}

// 16.4: the smallest and the largest numbers in each field.
func TestPutLimits(t *testing.T) {
	fill := func(p api.Page, from, to int) api.Page {
		for i := from; i < to; i++ {
			p[i] = 0xff
		}
		return p
	}
	empty := api.Page{'R', 0, 1}
	for _, c := range []struct {
		p    api.Point
		want api.Page
	}{
		{api.Point{}, empty},
		{api.Point{X: math.MaxUint32}, fill(empty, 3, 7)},
		{api.Point{Y: math.MaxUint32}, fill(empty, 7, 11)},
		{api.Point{Id: math.MaxUint64}, fill(empty, 11, 19)},
		{api.Point{Key: math.MaxUint64}, fill(empty, 19, 27)},
		{api.Point{X: math.MaxUint32, Y: math.MaxUint32, Id: math.MaxUint64, Key: math.MaxUint64}, fill(empty, 3, 27)},
	} {
		r := region.Region{Pages: []int{255}, Points: []api.Point{c.p}}
		wantPut(t, r, api.Image{Page: 255, P: c.want})
		wantGet(t, disk{255: c.want}, 255, r)
	}
}

// 16.4: each page gets the next eight points, as far as there are any, and the number of the next page.
func TestPutSeveralPages(t *testing.T) {
	r := region.Region{Box: box(7, 7, 8, 8), Pages: []int{9, 255, 1, 30}}
	for n := range 33 {
		r.Points = points(n)
		share := func(i int) []api.Point { return r.Points[min(8*i, n):min(8*i+8, n)] }
		wantPut(t, r,
			api.Image{Page: 9, P: laid(255, share(0)...)},
			api.Image{Page: 255, P: laid(1, share(1)...)},
			api.Image{Page: 1, P: laid(30, share(2)...)},
			api.Image{Page: 30, P: laid(0, share(3)...)})
	}
}

// 16.4: the pages are in the order of Pages, also if they are more than Get takes, or occur twice.
func TestPutManyPages(t *testing.T) {
	r := region.Region{Pages: append(numbered(255, 255), 255), Points: points(256 * 8)}
	l := r.Put()
	if len(l) != 256 {
		t.Fatalf("%d pages", len(l))
	}
	for i, image := range l {
		next := byte(0)
		if i < 255 {
			next = byte(r.Pages[i+1])
		}
		if want := (api.Image{Page: r.Pages[i], P: laid(next, r.Points[8*i:8*i+8]...)}); image != want {
			t.Fatalf("page %d of the chain is %v, want %v", i, image, want)
		}
	}
}

// 16.4: the Box is not stored.
func TestPutBoxes(t *testing.T) {
	want := with(11, 4, 9).Put()
	for _, b := range rightBoxes() {
		r := with(11, 4, 9)
		r.Box = b
		wantPut(t, r, want...)
	}
}

// 16.4: without pages and points, there is nothing to put.
func TestPutNoPages(t *testing.T) {
	wantPut(t, region.Region{})
	wantPut(t, region.Region{Box: box(0, 0, 2, 2), Pages: []int{}, Points: []api.Point{}})
}

// 16.4, P0: what Put does not take has no pages, and the call returns.
func TestPutRejects(t *testing.T) {
	for name, r := range map[string]region.Region{
		"page 0":                         with(2, 0),
		"page 0 behind another one":      with(11, 4, 0),
		"page 0 ahead of another one":    with(11, 0, 4),
		"page 256":                       with(0, 256),
		"page 256 behind another one":    with(0, 4, 256),
		"page 256 ahead of another one":  with(0, 256, 4),
		"page 260, which is 4 in a byte": with(3, 3, 260, 5),
		"a page below 0":                 with(0, 4, -1),
		"the smallest page":              with(1, math.MinInt),
		"the largest page":               with(1, math.MaxInt),
		"nine points on a page":          with(9, 4),
		"seventeen points on two pages":  with(17, 4, 9),
		"a point without a page":         with(1),
	} {
		before := copyOf(r)
		if got := r.Put(); len(got) != 0 {
			t.Errorf("%s: %v", name, got)
		}
		wantRegion(t, name, r, before)
	}
}

// 16.4 and R3: the pages are new memory each time.
func TestPutMemory(t *testing.T) {
	r := with(11, 4, 9)
	one, two := r.Put(), r.Put()
	for i := range one {
		one[i] = api.Image{Page: 77, P: api.Page{1, 2, 3}}
	}
	_ = append(one, api.Image{})
	if !slices.Equal(two, r.Put()) || !same(r, with(11, 4, 9)) {
		t.Error("the results of Put share memory")
	}
}

// 16.4: from each page of a chain on, its rest is a region.
func TestGetFromEachPage(t *testing.T) {
	for n := range 49 {
		r := with(n, 9, 255, 1, 30, 31, 29)
		d := diskOf(r)
		for i, page := range r.Pages {
			wantGet(t, d, page, region.Region{Box: r.Box, Pages: r.Pages[i:], Points: r.Points[min(8*i, n):]})
		}
	}
}

// 16.4: the region has the Box that Get was given, whatever it is; it does not matter otherwise.
func TestGetBoxes(t *testing.T) {
	r := with(11, 4, 9)
	d := diskOf(r)
	for _, b := range slices.AppendSeq(rightBoxes(), maps.Values(wrongBoxes())) {
		r.Box = b
		wantGet(t, d, 4, r)
		if got, ok := region.Get(b, 5, d.at); ok || !same(got, region.Region{}) {
			t.Errorf("Get of a page that is not there = %v, %v", got, ok)
		}
	}
}

// 16.4: of a page that is not there, at the beginning or further on, there is no region.
func TestGetMissingPage(t *testing.T) {
	r := with(20, 4, 9, 6)
	d := diskOf(r)
	for _, first := range []int{1, 3, 5, 7, 255} {
		wantNone(t, "no page", d, first)
	}
	wantNone(t, "no pages", disk{}, 4)
	for i, page := range r.Pages {
		less := maps.Clone(d)
		delete(less, page)
		for _, first := range r.Pages[:i+1] {
			wantNone(t, "a page of the chain is missing", less, first)
		}
	}
	// What comes beside false does not count.
	for _, there := range []func(n int) bool{
		func(int) bool { return false },
		func(n int) bool { return n != 9 },
		func(n int) bool { return n != 6 },
	} {
		got, ok := region.Get(r.Box, 4, func(n int) (api.Page, bool) { return d[n], there(n) })
		if ok || !same(got, region.Region{}) {
			t.Errorf("Get of pages that are not there = %v, %v", got, ok)
		}
	}
}

// 16.4 and P0: a region does not begin with a page whose number Put does not take, whatever is there; without a function there is no page.
func TestGetOtherNumbers(t *testing.T) {
	b := box(0, 0, 1, 1)
	for _, first := range []int{math.MinInt, -256, -252, -1, 0, 256, 257, 260, 1 << 32, 1<<32 + 4, math.MaxInt} {
		got, ok := region.Get(b, first, func(int) (api.Page, bool) { return laid(0, point(1)), true })
		if ok || !same(got, region.Region{}) {
			t.Errorf("Get(%d) = %v, %v", first, got, ok)
		}
	}
	for _, first := range []int{-1, 0, 1, 4, 255, 256} {
		if got, ok := region.Get(b, first, nil); ok || !same(got, region.Region{}) {
			t.Errorf("Get(%d, nil) = %v, %v", first, got, ok)
		}
	}
}

// 16.4: a chain of MaxChain pages is a region, one of more pages is not, with points or without.
func TestGetLongChain(t *testing.T) {
	for _, full := range []int{0, 1, 8} {
		for n := 1; n <= 20; n++ {
			r := with(full*n, numbered(255, n)...)
			d := diskOf(r)
			if n <= 6 {
				wantGet(t, d, 255, r)
				continue
			}
			wantNone(t, "a long chain", d, 255)
			at := n - 6 // the rest from here on is not too long
			wantNone(t, "a long chain", d, r.Pages[at-1])
			wantGet(t, d, r.Pages[at], region.Region{Box: r.Box, Pages: r.Pages[at:], Points: r.Points[min(8*at, len(r.Points)):]})
		}
	}
}

// 16.4: a chain that runs in a circle has no end, whether its pages have points or not.
func TestGetCircle(t *testing.T) {
	for _, l := range [][]api.Point{nil, points(8)} {
		wantNone(t, "a page is its own next one", disk{4: laid(4, l...)}, 4)
		wantNone(t, "the last page leads back to the first", disk{4: laid(9, l...), 9: laid(4, l...)}, 4)
		wantNone(t, "the last page leads back to the second", disk{4: laid(9, l...), 9: laid(6, l...), 6: laid(9, l...)}, 4)
		r := with(48, numbered(20, 6)...)
		for _, back := range r.Pages {
			wantNone(t, "the sixth page leads back", diskOf(r).but(15, laid(byte(back), l...)), 20)
		}
		circle := disk{}
		for n := 1; n <= 255; n++ {
			circle[n] = laid(byte(n%255+1), l...)
		}
		wantNone(t, "all pages", circle, 1)
	}
}

// 16.4, P0: Get asks for each page of the chain once, and for no page that cannot belong to it.
func TestGetAsks(t *testing.T) {
	r := with(20, 4, 9, 6)
	d := diskOf(r)
	var asked []int
	region.Get(r.Box, 4, func(n int) (api.Page, bool) {
		asked = append(asked, n)
		return d.at(n)
	})
	if !slices.Equal(asked, []int{4, 9, 6}) {
		t.Errorf("asked for %v", asked)
	}
	asked = nil
	region.Get(r.Box, 4, func(n int) (api.Page, bool) {
		asked = append(asked, n)
		return laid(4), true
	})
	if len(asked) > 6 {
		t.Errorf("asked for %d pages of a circle", len(asked))
	}
	// What stands on a page that is not one of a region leads nowhere.
	for _, p := range []api.Page{{'B', 6}, {'R', 6, 10}, {'R', 6, 255}} {
		asked = nil
		got, ok := region.Get(r.Box, 4, func(n int) (api.Page, bool) {
			asked = append(asked, n)
			return disk{4: laid(9, points(8)...), 9: p, 6: laid(0)}.at(n)
		})
		if ok || !same(got, region.Region{}) || !slices.Equal(asked, []int{4, 9}) {
			t.Errorf("asked for %v, Get = %v, %v", asked, got, ok)
		}
	}
}

// 16.4: a page has the next eight points, as far as there are any: none may follow one that is not full.
func TestGetShares(t *testing.T) {
	for a := range 9 {
		for b := range 9 {
			for c := range 9 {
				l := points(a + b + c)
				d := disk{4: laid(9, l[:a]...), 9: laid(6, l[a:a+b]...), 6: laid(0, l[a+b:]...)}
				if (a == 8 || b == 0 && c == 0) && (b == 8 || c == 0) {
					wantGet(t, d, 4, with(a+b+c, 4, 9, 6))
				} else {
					wantNone(t, "a page that is not full", d, 4)
				}
			}
		}
	}
}

// 16.4: behind the points there are zero bytes alone, on each page.
func TestGetBytesBehind(t *testing.T) {
	d := diskOf(with(11, 4, 9))
	for page, end := range map[int]int{4: 3 + 8*24, 9: 3 + 3*24} {
		for i := end; i < 224; i++ {
			for _, c := range []byte{1, 0x80, 0xff, 'R'} {
				p := d[page]
				p[i] = c
				wantNone(t, "bytes behind the points", d.but(page, p), 4)
			}
		}
	}
	for i := 3; i < 224; i++ {
		p := laid(0)
		p[i] = 1
		wantNone(t, "bytes on a page without points", disk{4: p}, 4)
	}
}

// 16.4: a count that is smaller or larger than the number of points, or larger than a page has room for.
func TestGetCounts(t *testing.T) {
	for n := range 9 {
		for count := range 256 {
			p := laid(0, points(n)...)
			p[2] = byte(count)
			switch {
			case count < n:
				wantNone(t, "a count that is too small", disk{4: p}, 4)
			case count > 8:
				wantNone(t, "a count that is too large", disk{4: p}, 4)
			default:
				// Zero bytes are points, too.
				want := with(n, 4)
				want.Points = append(want.Points, make([]api.Point, count-n)...)
				wantGet(t, disk{4: p}, 4, want)
			}
		}
	}
}

// 16.4: nine points, which are as many as there are bytes for, are too many, also if the next page has fewer.
func TestGetNinePoints(t *testing.T) {
	nine := points(9)
	for next := range 3 {
		wantNone(t, "nine points", disk{4: laid(byte(next), nine...), 1: laid(2), 2: laid(0)}, 4)
	}
	for n := range 9 {
		wantNone(t, "nine points, and more on the next page", disk{4: laid(5, nine...), 5: laid(0, points(n)...)}, 4)
		wantNone(t, "nine points on the next page", disk{4: laid(5, points(n)...), 5: laid(0, nine...)}, 4)
	}
}

// 16.4: each page begins with 'R'.
func TestGetFirstByte(t *testing.T) {
	r := with(11, 4, 9)
	d := diskOf(r)
	for _, page := range r.Pages {
		for c := range 256 {
			p := d[page]
			p[0] = byte(c)
			if c == 'R' {
				wantGet(t, d.but(page, p), 4, r)
			} else {
				wantNone(t, "another first byte", d.but(page, p), 4)
			}
		}
	}
	wantNone(t, "a zero page", disk{4: {}}, 4)
	wantNone(t, "a page of a bucket", disk{4: {'B', 0, 0, 0}}, 4)
}

// 16.4, 16.5 and P6: pages with any byte changed are those of no region, or of the one whose Put they are.
func TestOneEncoding(t *testing.T) {
	for _, n := range []int{0, 2, 8, 11, 16} {
		r := with(n, 4, 9)
		d := diskOf(r)
		for _, page := range r.Pages {
			for i := range 224 {
				for _, c := range []byte{0, 1, 2, 3, 8, 9, 82, 255} {
					p := d[page]
					p[i] = c
					changed := d.but(page, p)
					got, ok := region.Get(r.Box, 4, changed.at)
					if !ok {
						wantNone(t, "a changed byte", changed, 4)
						continue
					}
					for _, image := range got.Put() {
						if image.P != changed[image.Page] {
							t.Fatalf("byte %d of page %d is %d: Get = %v, which has other pages", i, page, c, got)
						}
					}
					if len(got.Put()) != len(got.Pages) || got.Pages[0] != 4 || got.Box != r.Box {
						t.Fatalf("byte %d of page %d is %d: Get = %v", i, page, c, got)
					}
				}
			}
		}
	}
}

// 16.5 and P6: every region that Put takes is decoded from its pages, other ones beside them.
func TestRoundTrip(t *testing.T) {
	next := noise(5)
	for range 3000 {
		r := anyRegion(next, 6)
		d := disk{}
		for n := 1; n <= 255; n++ {
			d[n] = laid(byte(n*7%256), points(n%9)...)
		}
		for _, image := range r.Put() {
			d[image.Page] = image.P
		}
		wantGet(t, d, r.Pages[0], r)
	}
}

// 16.5: numbers at their limits, points that are equal, and every number of points on every number of pages.
func TestRoundTripLimits(t *testing.T) {
	const top = math.MaxUint64
	for _, p := range []api.Point{
		{},
		{X: math.MaxUint32, Y: math.MaxUint32, Id: top, Key: top},
		{X: 1 << 31, Y: 1, Id: 1 << 63, Key: 1},
		{X: 1, Y: 1 << 31, Id: 1, Key: 1 << 63},
		{X: 0x01020304, Y: 0x52525252, Id: 1 << 32, Key: 0x5200000000000052},
	} {
		for pages := 1; pages <= 6; pages++ {
			for n := range 8*pages + 1 {
				r := region.Region{Box: box(0, 0, 8, 8), Pages: numbered(255, pages), Points: slices.Repeat([]api.Point{p}, n)}
				wantGet(t, diskOf(r), 255, r)
			}
		}
	}
}

// 16.5: all numbers of pages.
func TestRoundTripNumbers(t *testing.T) {
	for n := 1; n <= 255; n++ {
		r := with(11, n, n%255+1)
		wantGet(t, diskOf(r), n, r)
	}
}

// 16.5: regions that were made by Add and Drop.
func TestRoundTripMade(t *testing.T) {
	r := with(0, 3, 200, 1)
	for i := range 24 {
		r, _ = r.Add(point(i))
		wantGet(t, diskOf(r), 3, r)
	}
	for i := range 24 {
		r, _ = r.Drop(point(i * 7 % 24))
		wantGet(t, diskOf(r), 3, r)
	}
}

// 16.4 and R3: what Get returns is the caller's, and does not change any page.
func TestGetMemory(t *testing.T) {
	r := with(11, 4, 9)
	d := diskOf(r)
	one, _ := region.Get(r.Box, 4, d.at)
	two, _ := region.Get(r.Box, 4, d.at)
	scribble(one)
	wantRegion(t, "another result", two, r)
	wantGet(t, d, 4, r)
	more, code := two.Add(point(50))
	other, _ := two.Add(point(51))
	if code != api.OK || more.Points[11] != point(50) || other.Points[11] != point(51) {
		t.Errorf("additions to a decoded region: %v, %v", more, other)
	}
}

// 16.2, 16.4 and 16.5: the chapter's example of a box, and a region of it, there and back.
func TestExample(t *testing.T) {
	b := box(0, 0, 3, 1)
	low, high, ok := b.Halves()
	if !ok || low != box(0, 0, 1, 1) || high != box(1, 0, 3, 1) {
		t.Fatalf("%v, %v, %v", low, high, ok)
	}
	r := region.Region{Box: high, Pages: []int{5, 6}}
	for _, p := range points(10) {
		r, _ = r.Add(p)
	}
	wantPut(t, r, api.Image{Page: 5, P: laid(6, points(10)[:8]...)}, api.Image{Page: 6, P: laid(0, points(10)[8:]...)})
	wantGet(t, diskOf(r), 5, r)
}

// P6: what Get and Put return hangs on their arguments alone, whatever was called before.
func TestSameAgain(t *testing.T) {
	next := noise(6)
	var regions []region.Region
	var puts [][]api.Image
	for range 50 {
		r := anyRegion(next, 6)
		regions, puts = append(regions, r), append(puts, r.Put())
	}
	for range 3 {
		for i, r := range regions {
			if !slices.Equal(r.Put(), puts[i]) {
				t.Fatalf("Put of %v has changed", r)
			}
			wantGet(t, diskOf(r), r.Pages[0], r)
			wantNone(t, "nothing there", disk{}, r.Pages[0])
		}
	}
}
