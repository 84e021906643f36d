package bucket_test

import (
	"maps"
	"math"
	"slices"
	"strings"
	"testing"

	"counterpane/api"
	"counterpane/bucket"
)

// rec returns a record whose fields all differ from those of the records with other numbers below 16.
func rec(n int) api.Rec {
	return api.Rec{Id: uint64(n) * 0x0101010101010101, Key: uint64(n)*0x0807060504030201 + 9, X: uint32(n) * 0x04030201, Y: uint32(n) * 0x01020304, Val: "abcdefghijklmno"[:n%16], Ghost: n%3 == 1}
}

// recs returns the records with the numbers from 0 to n-1; their Ids are these numbers.
func recs(n int) []api.Rec {
	var l []api.Rec
	for i := range n {
		r := rec(i % 16)
		r.Id = uint64(i)
		l = append(l, r)
	}
	return l
}

// with returns a bucket of these pages with so many records.
func with(n int, pages ...int) bucket.Bucket {
	return bucket.Bucket{Depth: 2, Pages: pages, Recs: recs(n)}
}

// numbered returns n pages, the first one with this number, each number one less than the one ahead of it.
func numbered(first, n int) []int {
	var l []int
	for i := range n {
		l = append(l, first-i)
	}
	return l
}

// copyOf returns a bucket that shares no memory with b.
func copyOf(b bucket.Bucket) bucket.Bucket {
	return bucket.Bucket{Depth: b.Depth, Pages: slices.Clone(b.Pages), Recs: slices.Clone(b.Recs)}
}

func same(a, b bucket.Bucket) bool {
	return a.Depth == b.Depth && slices.Equal(a.Pages, b.Pages) && slices.Equal(a.Recs, b.Recs)
}

func wantBucket(t *testing.T, name string, got, want bucket.Bucket) {
	t.Helper()
	if !same(got, want) {
		t.Fatalf("%s: %v, want %v", name, got, want)
	}
}

// laid returns a page, put together byte by byte.
func laid(depth, next byte, l ...api.Rec) api.Page {
	b := []byte{66, depth, next, byte(len(l))}
	big := func(n uint64, size int) {
		for i := size - 1; i >= 0; i-- {
			b = append(b, byte(n>>(8*i)))
		}
	}
	for _, r := range l {
		big(r.Id, 8)
		big(r.Key, 8)
		big(uint64(r.X), 4)
		big(uint64(r.Y), 4)
		if r.Ghost {
			b = append(b, 1)
		} else {
			b = append(b, 0)
		}
		b = append(b, byte(len(r.Val)))
		b = append(b, r.Val...)
		b = append(b, make([]byte, 15-len(r.Val))...)
	}
	var p api.Page
	copy(p[:], b)
	return p
}

// disk is pages by their numbers.
type disk map[int]api.Page

func (d disk) at(n int) (api.Page, bool) {
	p, ok := d[n]
	return p, ok
}

// diskOf returns the pages of all buckets.
func diskOf(l ...bucket.Bucket) disk {
	d := disk{}
	for _, b := range l {
		for _, image := range b.Put() {
			d[image.Page] = image.P
		}
	}
	return d
}

// but returns the pages with another one at this number.
func (d disk) but(n int, p api.Page) disk {
	out := maps.Clone(d)
	out[n] = p
	return out
}

func wantGet(t *testing.T, d disk, first int, want bucket.Bucket) {
	t.Helper()
	got, ok := bucket.Get(first, d.at)
	if !ok || !same(got, want) {
		t.Fatalf("Get(%d) = %v, %v, want %v", first, got, ok, want)
	}
}

func wantNone(t *testing.T, name string, d disk, first int) {
	t.Helper()
	got, ok := bucket.Get(first, d.at)
	if ok || got.Depth != 0 || len(got.Pages) != 0 || len(got.Recs) != 0 {
		t.Errorf("%s: Get(%d) = %v, %v, want none", name, first, got, ok)
	}
}

// noise returns a function that returns numbers in [0, n) that look like random ones.
func noise(seed uint64) func(n int) int {
	return func(n int) int {
		seed = seed*6364136223846793005 + 1442695040888963407
		return int(seed>>33) % n
	}
}

// anyBucket returns a bucket that Put takes, with at most so many pages.
func anyBucket(next func(int) int, most int) bucket.Bucket {
	b := bucket.Bucket{Depth: next(bucket.MaxDepth + 1)}
	numbers := numbered(255, 255)
	for range 1 + next(most) {
		i := next(len(numbers))
		b.Pages = append(b.Pages, numbers[i])
		numbers = slices.Delete(numbers, i, i+1)
	}
	for range next(5*len(b.Pages) + 1) {
		b.Recs = append(b.Recs, anyRec(next))
	}
	return b
}

// anyRec returns a record; its Id and its Key are often those of another one.
func anyRec(next func(int) int) api.Rec {
	numbers := []uint64{0, 1, 7, 1 << 40, math.MaxUint64}
	val := make([]byte, next(api.MaxValue+1))
	for i := range val {
		val[i] = byte(next(256) * next(2))
	}
	return api.Rec{Id: numbers[next(5)], Key: numbers[next(5)], X: uint32(numbers[next(5)]), Y: uint32(numbers[next(5)]), Val: string(val), Ghost: next(2) == 0}
}

// 13.1: the constants of the chapter.
func TestConstants(t *testing.T) {
	if bucket.Cap != 5 || bucket.MaxDepth != 6 || bucket.MaxChain != 8 {
		t.Error("a constant is wrong")
	}
}

// 13.1: five for each page, less the records.
func TestRoom(t *testing.T) {
	for _, c := range []struct {
		b    bucket.Bucket
		want int
	}{
		{bucket.Bucket{}, 0},
		{bucket.Bucket{Pages: []int{}, Recs: []api.Rec{}}, 0},
		{with(0, 4), 5},
		{with(1, 4), 4},
		{with(4, 4), 1},
		{with(5, 4), 0},
		{with(0, 4, 9), 10},
		{with(5, 4, 9), 5},
		{with(7, 4, 9), 3},
		{with(10, 4, 9), 0},
		{with(0, numbered(200, 8)...), 40},
		{with(39, numbered(200, 8)...), 1},
		{with(40, numbered(200, 8)...), 0},
		{with(0, numbered(200, 9)...), 45},
		{with(1), -1},
		{with(8, 4), -3},
	} {
		if got := c.b.Room(); got != c.want {
			t.Errorf("Room of %d pages with %d records = %d, want %d", len(c.b.Pages), len(c.b.Recs), got, c.want)
		}
	}
}

// 13.1: neither the Depth nor ghosts count.
func TestRoomOfGhosts(t *testing.T) {
	for depth := range 7 {
		b := bucket.Bucket{Depth: depth, Pages: []int{1, 2}, Recs: []api.Rec{{Id: 1, Ghost: true}, {Id: 2}, {Id: 3, Ghost: true}}}
		if got := b.Room(); got != 7 {
			t.Errorf("Room = %d, want 7", got)
		}
	}
}

// mixed is a bucket in which Ids and Keys occur several times, some of them with ghosts alone.
func mixed() bucket.Bucket {
	return bucket.Bucket{Depth: 3, Pages: []int{7, 2}, Recs: []api.Rec{
		{Id: 5, Key: 1, Ghost: true},
		{Id: 6, Key: 2},
		{Id: 5, Key: 1},
		{Id: 6, Key: 3, Ghost: true},
		{Id: 7, Key: 1},
		{Id: 0, Key: 3, Ghost: true},
		{Id: math.MaxUint64, Key: 0},
		{Id: 1 << 32, Key: math.MaxUint64, Ghost: true},
		{Id: 8, Key: math.MaxUint64, Ghost: false},
	}}
}

// 13.2: Find returns the first record with the Id, a ghost or not; -1: there is none.
func TestFind(t *testing.T) {
	b := mixed()
	for id, want := range map[uint64]int{5: 0, 6: 1, 7: 4, 0: 5, math.MaxUint64: 6, 1 << 32: 7, 8: 8, 1: -1, 2: -1, 3: -1, 9: -1, 1<<32 + 5: -1, math.MaxUint64 - 1: -1} {
		if got := b.Find(id); got != want {
			t.Errorf("Find(%d) = %d, want %d", id, got, want)
		}
	}
	if got := (bucket.Bucket{}).Find(0); got != -1 {
		t.Errorf("Find in the zero bucket = %d", got)
	}
	if got := with(0, 4).Find(0); got != -1 {
		t.Errorf("Find without records = %d", got)
	}
}

// 13.2: Live returns the first record with the Key that is no ghost; -1: there is none.
func TestLive(t *testing.T) {
	b := mixed()
	for key, want := range map[uint64]int{1: 2, 2: 1, 3: -1, 0: 6, math.MaxUint64: 8, 5: -1, 6: -1, 7: -1, 8: -1, 1<<32 + 1: -1} {
		if got := b.Live(key); got != want {
			t.Errorf("Live(%d) = %d, want %d", key, got, want)
		}
	}
	if got := (bucket.Bucket{}).Live(0); got != -1 {
		t.Errorf("Live in the zero bucket = %d", got)
	}
	all := bucket.Bucket{Pages: []int{1}, Recs: []api.Rec{{Id: 1, Key: 4, Ghost: true}, {Id: 2, Key: 4, Ghost: true}}}
	if got := all.Live(4); got != -1 {
		t.Errorf("Live among ghosts = %d", got)
	}
}

// 13.2: of several records that are no ghosts, the first one.
func TestLiveFirst(t *testing.T) {
	for first := range 5 {
		b := with(0, 4)
		for i := range 5 {
			b.Recs = append(b.Recs, api.Rec{Id: uint64(i), Key: 4, Ghost: i < first})
		}
		if got := b.Live(4); got != first {
			t.Errorf("Live = %d, want %d", got, first)
		}
	}
}

// 13.2: what Add returns is the bucket with the record behind the others.
func TestAdd(t *testing.T) {
	b := bucket.Bucket{Depth: 6, Pages: []int{200, 3}}
	var want []api.Rec
	for i := range 10 {
		r := rec(i + 1)
		c, code := b.Add(r)
		want = append(want, r)
		if code != api.OK {
			t.Fatalf("Add of record %d: code %d", i, code)
		}
		wantBucket(t, "Add", c, bucket.Bucket{Depth: 6, Pages: []int{200, 3}, Recs: want})
		b = c
	}
	if b.Room() != 0 {
		t.Errorf("Room = %d behind ten records", b.Room())
	}
}

// 13.2: records with the same Key are added, live ones too.
func TestAddSameKey(t *testing.T) {
	b := with(0, 4)
	for i := range 5 {
		var code api.Code
		if b, code = b.Add(api.Rec{Id: uint64(i), Key: 8, Ghost: i == 1}); code != api.OK {
			t.Fatal(code)
		}
	}
	if len(b.Recs) != 5 || b.Live(8) != 0 {
		t.Errorf("%v", b)
	}
}

// 13.2 and R6: each code alone, and of several ones the first; the bucket beside it is unchanged.
func TestAddRejects(t *testing.T) {
	fits, long := strings.Repeat("v", 15), strings.Repeat("v", 16)
	roomy := bucket.Bucket{Depth: 1, Pages: []int{4}, Recs: []api.Rec{{Id: 1, Key: 1}, {Id: 2, Key: 2, Ghost: true}}}
	full := with(5, 4)
	for _, c := range []struct {
		name string
		b    bucket.Bucket
		r    api.Rec
		want api.Code
	}{
		{"the longest value", roomy, api.Rec{Id: 3, Val: fits}, api.OK},
		{"an Id that no record has, a Key that one has", roomy, api.Rec{Id: 3, Key: 1}, api.OK},
		{"an Id that is another one's Key", bucket.Bucket{Pages: []int{4}, Recs: []api.Rec{{Id: 1, Key: 2}}}, api.Rec{Id: 2, Key: 1}, api.OK},
		{"full", full, api.Rec{Id: 9}, api.ErrFull},
		{"no pages", bucket.Bucket{}, api.Rec{}, api.ErrFull},
		{"several full pages", with(10, 4, 9), api.Rec{Id: 99}, api.ErrFull},
		{"more records than room", with(7, 4), api.Rec{Id: 99}, api.ErrFull},
		{"an Id that is there", roomy, api.Rec{Id: 1, Key: 7}, api.ErrTwice},
		{"a ghost's Id", roomy, api.Rec{Id: 2, Key: 7}, api.ErrTwice},
		{"the same record", roomy, api.Rec{Id: 1, Key: 1}, api.ErrTwice},
		{"a ghost with an Id that is there", roomy, api.Rec{Id: 1, Ghost: true}, api.ErrTwice},
		{"a value that is too long", roomy, api.Rec{Id: 3, Val: long}, api.ErrSize},
		{"a ghost's value that is too long", roomy, api.Rec{Id: 3, Val: long, Ghost: true}, api.ErrSize},
		{"a very long value", roomy, api.Rec{Id: 3, Val: strings.Repeat("v", 300)}, api.ErrSize},
		{"a value of few runes that are too many bytes", roomy, api.Rec{Id: 3, Val: strings.Repeat("ä", 8)}, api.ErrSize},
		{"full, and the Id is there", full, api.Rec{Id: 1}, api.ErrFull},
		{"full, and the value is too long", full, api.Rec{Id: 9, Val: long}, api.ErrFull},
		{"the Id is there, and the value is too long", roomy, api.Rec{Id: 1, Val: long}, api.ErrTwice},
		{"a ghost's Id, and the value is too long", roomy, api.Rec{Id: 2, Val: long}, api.ErrTwice},
		{"all three", full, api.Rec{Id: 1, Val: long}, api.ErrFull},
	} {
		before := copyOf(c.b)
		want := copyOf(c.b)
		if c.want == api.OK {
			want.Recs = append(want.Recs, c.r)
		}
		got, code := c.b.Add(c.r)
		if code != c.want {
			t.Errorf("%s: code %d, want %d", c.name, code, c.want)
		}
		wantBucket(t, c.name, got, want)
		wantBucket(t, c.name+", the earlier bucket", c.b, before)
	}
}

// 13.2: the record is gone, the others stay in their order.
func TestDrop(t *testing.T) {
	for n := 1; n <= 10; n++ {
		b := with(n, 4, 9)
		for i := range n {
			got, ok := b.Drop(uint64(i))
			want := with(n, 4, 9)
			want.Recs = slices.Delete(want.Recs, i, i+1)
			if !ok {
				t.Errorf("Drop(%d) of %d records is false", i, n)
			}
			wantBucket(t, "Drop", got, want)
			wantBucket(t, "the earlier bucket", b, with(n, 4, 9))
		}
	}
}

// 13.2: of several records with the Id the first one alone is gone, a ghost too.
func TestDropFirst(t *testing.T) {
	b := mixed()
	for _, at := range []int{0, 2} {
		c, ok := b.Drop(5)
		want := copyOf(b)
		want.Recs = slices.DeleteFunc(want.Recs, func(r api.Rec) bool { return r == mixed().Recs[at] })
		if !ok || len(c.Recs) != len(b.Recs)-1 {
			t.Fatalf("Drop(5) = %v, %v", c, ok)
		}
		wantBucket(t, "Drop", c, want)
		b = c
	}
	if c, ok := b.Drop(5); ok || !same(c, b) {
		t.Errorf("Drop of an Id that is gone = %v, %v", c, ok)
	}
}

// 13.2: of an Id that is not there, the unchanged bucket and false.
func TestDropNone(t *testing.T) {
	for _, b := range []bucket.Bucket{{}, with(0, 4), with(1, 4), with(5, 4), with(7, 4, 9), with(3)} {
		for _, id := range []uint64{99, math.MaxUint64, 1 << 32} {
			before := copyOf(b)
			got, ok := b.Drop(id)
			if ok {
				t.Errorf("Drop(%d) of %v is true", id, b)
			}
			wantBucket(t, "Drop", got, before)
			wantBucket(t, "the earlier bucket", b, before)
		}
	}
}

// 13.2: Ghost alone of that record changes, and back.
func TestMark(t *testing.T) {
	b := with(7, 4, 9)
	for i := range 7 {
		for _, ghost := range []bool{true, false, b.Recs[i].Ghost} {
			got, ok := b.Mark(uint64(i), ghost)
			want := with(7, 4, 9)
			want.Recs[i].Ghost = ghost
			if !ok {
				t.Errorf("Mark(%d) is false", i)
			}
			wantBucket(t, "Mark", got, want)
			wantBucket(t, "the earlier bucket", b, with(7, 4, 9))
			back, ok := got.Mark(uint64(i), b.Recs[i].Ghost)
			if !ok {
				t.Errorf("Mark(%d) back is false", i)
			}
			wantBucket(t, "Mark back", back, b)
			wantBucket(t, "the marked bucket", got, want)
		}
	}
}

// 13.2: of several records with the Id the first one alone is marked.
func TestMarkFirst(t *testing.T) {
	for _, ghost := range []bool{true, false} {
		for id, at := range map[uint64]int{5: 0, 6: 1} {
			got, ok := mixed().Mark(id, ghost)
			want := mixed()
			want.Recs[at].Ghost = ghost
			if !ok {
				t.Errorf("Mark(%d) is false", id)
			}
			wantBucket(t, "Mark", got, want)
		}
	}
}

// 13.2: of an Id that is not there, the unchanged bucket and false.
func TestMarkNone(t *testing.T) {
	for _, b := range []bucket.Bucket{{}, with(0, 4), with(5, 4), with(7, 4, 9), with(3)} {
		for _, ghost := range []bool{true, false} {
			before := copyOf(b)
			got, ok := b.Mark(99, ghost)
			if ok {
				t.Errorf("Mark(99) of %v is true", b)
			}
			wantBucket(t, "Mark", got, before)
			wantBucket(t, "the earlier bucket", b, before)
		}
	}
}

// 13.2: Find and Live notice what Add, Drop and Mark have done.
func TestGhostAndRecord(t *testing.T) {
	b := with(0, 4)
	b, _ = b.Add(api.Rec{Id: 1, Key: 8, Val: "old"})
	b, _ = b.Mark(1, true)
	if b.Live(8) != -1 || b.Find(1) != 0 {
		t.Error("the ghost is live, or gone")
	}
	b, _ = b.Add(api.Rec{Id: 2, Key: 8, Val: "new"})
	if b.Live(8) != 1 || b.Find(1) != 0 || b.Find(2) != 1 {
		t.Error("the new record is not found behind the ghost")
	}
	back, _ := b.Drop(2)
	back, _ = back.Mark(1, false)
	if back.Live(8) != 0 || back.Recs[0].Val != "old" {
		t.Error("the old record is not back")
	}
	b, _ = b.Drop(1)
	if b.Live(8) != 0 || b.Find(1) != -1 || b.Recs[0].Val != "new" {
		t.Error("the ghost is still there")
	}
}

// spare returns b with the same pages and records, behind which there is memory with others, and a function that fails the test if b or that memory has changed.
func spare(b bucket.Bucket) (bucket.Bucket, func(t *testing.T, name string)) {
	allRecs := append(slices.Clone(b.Recs), api.Rec{Id: 1001, Val: "behind"}, api.Rec{Id: 1002}, api.Rec{Id: 1003})
	allPages := append(slices.Clone(b.Pages), 251, 252, 253)
	keptRecs, keptPages := slices.Clone(allRecs), slices.Clone(allPages)
	out := bucket.Bucket{Depth: b.Depth, Pages: allPages[:len(b.Pages)], Recs: allRecs[:len(b.Recs)]}
	return out, func(t *testing.T, name string) {
		t.Helper()
		if !slices.Equal(allRecs, keptRecs) || !slices.Equal(allPages, keptPages) || !same(out, b) {
			t.Fatalf("%s changed the earlier bucket, or the memory behind it: %v, %v", name, allRecs, allPages)
		}
	}
}

// scribble writes to all memory of a bucket, and behind it.
func scribble(b bucket.Bucket) {
	for i := range b.Pages[:cap(b.Pages)] {
		b.Pages[:cap(b.Pages)][i] = -7
	}
	for i := range b.Recs[:cap(b.Recs)] {
		b.Recs[:cap(b.Recs)][i] = api.Rec{Id: 7777, Val: "scribbled"}
	}
}

// calls are all ways to make a bucket of another one with the records 0 to 4 and room for more.
func calls() map[string]func(b bucket.Bucket) bucket.Bucket {
	add := func(r api.Rec) func(b bucket.Bucket) bucket.Bucket {
		return func(b bucket.Bucket) bucket.Bucket { c, _ := b.Add(r); return c }
	}
	drop := func(id uint64) func(b bucket.Bucket) bucket.Bucket {
		return func(b bucket.Bucket) bucket.Bucket { c, _ := b.Drop(id); return c }
	}
	mark := func(id uint64, ghost bool) func(b bucket.Bucket) bucket.Bucket {
		return func(b bucket.Bucket) bucket.Bucket { c, _ := b.Mark(id, ghost); return c }
	}
	return map[string]func(b bucket.Bucket) bucket.Bucket{
		"Add":              add(api.Rec{Id: 50, Val: "x"}),
		"another Add":      add(api.Rec{Id: 51, Val: "y"}),
		"Add twice":        add(api.Rec{Id: 3}),
		"Add of the size":  add(api.Rec{Id: 52, Val: strings.Repeat("v", 16)}),
		"Drop of first":    drop(0),
		"Drop of middle":   drop(2),
		"Drop of last":     drop(4),
		"Drop of none":     drop(99),
		"Mark":             mark(2, true),
		"Mark of a ghost":  mark(1, false),
		"Mark as it is":    mark(1, true),
		"Mark of none":     mark(99, true),
		"Find, Live, Room": func(b bucket.Bucket) bucket.Bucket { b.Find(2); b.Live(9); b.Room(); return copyOf(b) },
		"Put":              func(b bucket.Bucket) bucket.Bucket { b.Put(); return copyOf(b) },
	}
}

// 13.1 and R3: every method leaves the earlier bucket, and the memory behind it, as it was, also if its result is written to.
func TestValue(t *testing.T) {
	for name, call := range calls() {
		for _, pages := range [][]int{{4, 9}, {4}} { // with room, and full
			b, unchanged := spare(with(5, pages...))
			out := call(b)
			unchanged(t, name)
			scribble(out)
			unchanged(t, name+", and a write to its result,")
		}
	}
}

// 13.1 and R3: a result does not change when the earlier bucket is written to.
func TestValueApart(t *testing.T) {
	for name, call := range calls() {
		for _, pages := range [][]int{{4, 9}, {4}} {
			want := call(with(5, pages...))
			b, _ := spare(with(5, pages...))
			out := call(b)
			scribble(b)
			wantBucket(t, name, out, want)
		}
	}
}

// 13.1: two results of one bucket, in either order, do not disturb each other; nor does a call on one of them.
func TestTwoResults(t *testing.T) {
	for name, call := range calls() {
		for other, second := range calls() {
			wantOne, wantTwo := call(with(5, 4, 9)), second(with(5, 4, 9))
			wantThree := second(call(with(5, 4, 9)))
			b, unchanged := spare(with(5, 4, 9))
			one, two := call(b), second(b)
			three := second(one)
			wantBucket(t, name+" ahead of "+other, one, wantOne)
			wantBucket(t, other+" behind "+name, two, wantTwo)
			wantBucket(t, other+" of "+name, three, wantThree)
			scribble(two)
			scribble(three)
			wantBucket(t, name+", the others written to", one, wantOne)
			unchanged(t, name+" and "+other)
		}
	}
}

// 13.1: records that were added to results of the same calls are not each other's.
func TestBranches(t *testing.T) {
	for n := range 9 {
		b := with(0, 4, 9)
		for _, r := range recs(n) {
			b, _ = b.Add(r)
		}
		one, _ := b.Add(api.Rec{Id: 100})
		two, _ := b.Add(api.Rec{Id: 200})
		if one.Recs[n].Id != 100 || two.Recs[n].Id != 200 || len(b.Recs) != n {
			t.Errorf("with %d records, two additions are %v and %v", n, one, two)
		}
		if n == 0 {
			continue
		}
		less, _ := b.Drop(uint64(n - 1))
		more, _ := less.Add(api.Rec{Id: 300})
		again, _ := less.Add(api.Rec{Id: 400})
		if !slices.Equal(b.Recs, recs(n)) || more.Recs[n-1].Id != 300 || again.Recs[n-1].Id != 400 {
			t.Errorf("with %d records, an addition behind Drop changed the earlier bucket: %v", n, b)
		}
	}
}

// 13.1, 13.2, P6: random calls, held against plain lists; all earlier buckets stay as they were.
func TestRandomCalls(t *testing.T) {
	next := noise(13)
	for range 300 {
		b := bucket.Bucket{Depth: next(7), Pages: numbered(1+next(200)+3, next(4))}
		var earlier, copies []bucket.Bucket
		for range 60 {
			earlier, copies = append(earlier, b), append(copies, copyOf(b))
			b = randomCall(t, next, b)
		}
		for i := range earlier {
			wantBucket(t, "an earlier bucket", earlier[i], copies[i])
		}
	}
}

// randomCall makes a call on b, and returns what the call must return.
func randomCall(t *testing.T, next func(int) int, b bucket.Bucket) bucket.Bucket {
	t.Helper()
	want, id, key := copyOf(b), uint64(next(8)), uint64(next(5))
	at, live := -1, -1
	for i := len(b.Recs) - 1; i >= 0; i-- {
		if b.Recs[i].Id == id {
			at = i
		}
		if b.Recs[i].Key == key && !b.Recs[i].Ghost {
			live = i
		}
	}
	if b.Find(id) != at || b.Live(key) != live || b.Room() != 5*len(b.Pages)-len(b.Recs) {
		t.Fatalf("%v: Find(%d) = %d, Live(%d) = %d, Room = %d", b, id, b.Find(id), key, b.Live(key), b.Room())
	}
	switch next(4) {
	case 0:
		got, ok := b.Drop(id)
		if at >= 0 {
			want.Recs = slices.Delete(want.Recs, at, at+1)
		}
		if ok != (at >= 0) || !same(got, want) {
			t.Fatalf("%v: Drop(%d) = %v, %v", b, id, got, ok)
		}
		return got
	case 1:
		ghost := next(2) == 0
		got, ok := b.Mark(id, ghost)
		if at >= 0 {
			want.Recs[at].Ghost = ghost
		}
		if ok != (at >= 0) || !same(got, want) {
			t.Fatalf("%v: Mark(%d) = %v, %v", b, id, got, ok)
		}
		return got
	}
	r := api.Rec{Id: id, Key: key, Val: strings.Repeat("v", next(18)), Ghost: next(3) == 0}
	wantCode := api.OK
	switch {
	case len(b.Recs) >= 5*len(b.Pages):
		wantCode = api.ErrFull
	case at >= 0:
		wantCode = api.ErrTwice
	case len(r.Val) > 15:
		wantCode = api.ErrSize
	default:
		want.Recs = append(want.Recs, r)
	}
	got, code := b.Add(r)
	if code != wantCode || !same(got, want) {
		t.Fatalf("%v: Add(%v) = %v, %d, want code %d", b, r, got, code, wantCode)
	}
	return got
}

func wantPut(t *testing.T, b bucket.Bucket, want ...api.Image) {
	t.Helper()
	if got := b.Put(); !slices.Equal(got, want) {
		t.Fatalf("Put of %v = %v, want %v", b, got, want)
	}
}

// 13.3: every byte of one page, with no records, some, and as many as it has room for.
func TestPutOnePage(t *testing.T) {
	for n := range 6 {
		for depth := range 7 {
			for _, page := range []int{1, 4, 254, 255} {
				b := bucket.Bucket{Depth: depth, Pages: []int{page}, Recs: recs(n)}
				wantPut(t, b, api.Image{Page: page, P: laid(byte(depth), 0, b.Recs...)})
			}
		}
	}
}

// 13.3: the bytes of a page, written out.
func TestPutBytes(t *testing.T) {
	b := bucket.Bucket{Depth: 3, Pages: []int{7, 200}, Recs: []api.Rec{{Id: 0x0102030405060708, Key: 0x1112131415161718, X: 0x21222324, Y: 0x31323334, Val: "ab", Ghost: true}}}
	wantPut(t, b,
		api.Image{Page: 7, P: api.Page{'B', 3, 200, 1, 1, 2, 3, 4, 5, 6, 7, 8, 0x11, 0x12, 0x13, 0x14, 0x15, 0x16, 0x17, 0x18, 0x21, 0x22, 0x23, 0x24, 0x31, 0x32, 0x33, 0x34, 1, 2, 'a', 'b'}},
		api.Image{Page: 200, P: api.Page{'B', 3}})
}

// 13.3: each page gets the next five records, as far as there are any, and the number of the next page.
func TestPutSeveralPages(t *testing.T) {
	b := bucket.Bucket{Depth: 6, Pages: []int{9, 255, 1, 30}}
	for n := range 21 {
		b.Recs = recs(n)
		share := func(i int) []api.Rec { return b.Recs[min(5*i, n):min(5*i+5, n)] }
		wantPut(t, b,
			api.Image{Page: 9, P: laid(6, 255, share(0)...)},
			api.Image{Page: 255, P: laid(6, 1, share(1)...)},
			api.Image{Page: 1, P: laid(6, 30, share(2)...)},
			api.Image{Page: 30, P: laid(6, 0, share(3)...)})
	}
}

// 13.3: the pages are in the order of Pages, also if they are more than Get takes, or occur twice.
func TestPutManyPages(t *testing.T) {
	b := bucket.Bucket{Depth: 1, Pages: append(numbered(255, 255), 255), Recs: recs(256 * 5)}
	l := b.Put()
	if len(l) != 256 {
		t.Fatalf("%d pages", len(l))
	}
	for i, image := range l {
		next := byte(0)
		if i < 255 {
			next = byte(b.Pages[i+1])
		}
		if want := (api.Image{Page: b.Pages[i], P: laid(1, next, b.Recs[5*i:5*i+5]...)}); image != want {
			t.Fatalf("page %d of the chain is %v, want %v", i, image, want)
		}
	}
}

// 13.3: without pages and records, there is nothing to put.
func TestPutNoPages(t *testing.T) {
	for depth := range 7 {
		wantPut(t, bucket.Bucket{Depth: depth})
		wantPut(t, bucket.Bucket{Depth: depth, Pages: []int{}, Recs: []api.Rec{}})
	}
}

// 13.3, P0: what Put does not take has no pages, and the call returns.
func TestPutRejects(t *testing.T) {
	for name, b := range map[string]bucket.Bucket{
		"a Depth below 0":                {Depth: -1, Pages: []int{4}},
		"the smallest Depth":             {Depth: math.MinInt, Pages: []int{4}},
		"a Depth above MaxDepth":         {Depth: 7, Pages: []int{4}, Recs: recs(2)},
		"a Depth that is 0 in a byte":    {Depth: 256, Pages: []int{4}, Recs: recs(2)},
		"the largest Depth":              {Depth: math.MaxInt, Pages: []int{4}},
		"page 0":                         {Pages: []int{0}, Recs: recs(2)},
		"page 0 behind another one":      {Pages: []int{4, 0}, Recs: recs(7)},
		"page 0 ahead of another one":    {Pages: []int{0, 4}, Recs: recs(7)},
		"page 256":                       {Pages: []int{256}},
		"page 256 behind another one":    {Pages: []int{4, 256}},
		"page 256 ahead of another one":  {Pages: []int{256, 4}},
		"page 260, which is 4 in a byte": {Pages: []int{3, 260, 5}},
		"a page below 0":                 {Pages: []int{4, -1}},
		"six records on a page":          with(6, 4),
		"eleven records on two pages":    with(11, 4, 9),
		"a record without a page":        with(1),
		"a value that is too long":       {Pages: []int{4}, Recs: []api.Rec{{Id: 1}, {Id: 2, Val: strings.Repeat("v", 16)}, {Id: 3}}},
	} {
		before := copyOf(b)
		if got := b.Put(); len(got) != 0 {
			t.Errorf("%s: %v", name, got)
		}
		wantBucket(t, name, b, before)
	}
}

// 13.3 and R3: the pages are new memory each time.
func TestPutMemory(t *testing.T) {
	b := with(7, 4, 9)
	one, two := b.Put(), b.Put()
	for i := range one {
		one[i] = api.Image{Page: 77, P: api.Page{1, 2, 3}}
	}
	_ = append(one, api.Image{})
	if !slices.Equal(two, b.Put()) || !same(b, with(7, 4, 9)) {
		t.Error("the results of Put share memory")
	}
}

// 13.3 and 13.4: the chapter's example.
func TestExample(t *testing.T) {
	b := bucket.Bucket{Pages: []int{4, 9}}
	for _, r := range recs(7) {
		b, _ = b.Add(r)
	}
	l := b.Put()
	if len(l) != 2 || l[0].Page != 4 || l[0].P[2] != 9 || l[0].P[3] != 5 || l[1].Page != 9 || l[1].P[2] != 0 || l[1].P[3] != 2 {
		t.Errorf("%v", l)
	}
	wantPut(t, b, api.Image{Page: 4, P: laid(0, 9, recs(7)[:5]...)}, api.Image{Page: 9, P: laid(0, 0, recs(7)[5:]...)})
	wantGet(t, diskOf(b), 4, b)
}

// 13.3: from each page of a chain on, its rest is a bucket.
func TestGetFromEachPage(t *testing.T) {
	for n := range 41 {
		b := bucket.Bucket{Depth: 4, Pages: []int{9, 255, 1, 30, 31, 29, 100, 2}, Recs: recs(n)}
		d := diskOf(b)
		for i, page := range b.Pages {
			wantGet(t, d, page, bucket.Bucket{Depth: 4, Pages: b.Pages[i:], Recs: b.Recs[min(5*i, n):]})
		}
	}
}

// 13.3: of a page that is not there, at the beginning or further on, there is no bucket.
func TestGetMissingPage(t *testing.T) {
	b := with(12, 4, 9, 6)
	d := diskOf(b)
	for _, first := range []int{1, 3, 5, 7, 255} {
		wantNone(t, "no page", d, first)
	}
	wantNone(t, "no pages", disk{}, 4)
	for i, page := range b.Pages {
		less := maps.Clone(d)
		delete(less, page)
		for _, first := range b.Pages[:i+1] {
			wantNone(t, "a page of the chain is missing", less, first)
		}
	}
	// What comes beside false does not count.
	got, ok := bucket.Get(4, func(n int) (api.Page, bool) { return d[n], false })
	if ok || !same(got, bucket.Bucket{}) {
		t.Errorf("Get of pages that are not there = %v, %v", got, ok)
	}
	got, ok = bucket.Get(4, func(n int) (api.Page, bool) { return d[n], n != 9 })
	if ok || !same(got, bucket.Bucket{}) {
		t.Errorf("Get of a second page that is not there = %v, %v", got, ok)
	}
}

// 13.3 and P0: a bucket does not begin with a page whose number Put does not take, whatever is there; without a function there is no page.
func TestGetOtherNumbers(t *testing.T) {
	for _, first := range []int{math.MinInt, -256, -252, -1, 0, 256, 257, 260, 1 << 32, 1<<32 + 4, math.MaxInt} {
		got, ok := bucket.Get(first, func(int) (api.Page, bool) { return laid(0, 0, rec(1)), true })
		if ok || !same(got, bucket.Bucket{}) {
			t.Errorf("Get(%d) = %v, %v", first, got, ok)
		}
	}
	for _, first := range []int{-1, 0, 1, 4, 255, 256} {
		if got, ok := bucket.Get(first, nil); ok || !same(got, bucket.Bucket{}) {
			t.Errorf("Get(%d, nil) = %v, %v", first, got, ok)
		}
	}
}

// 13.3: a chain of MaxChain pages is a bucket, one of more pages is not, with records or without.
func TestGetLongChain(t *testing.T) {
	for _, full := range []int{0, 1, 5} {
		for n := 1; n <= 20; n++ {
			b := with(full*n, numbered(255, n)...)
			d := diskOf(b)
			if n <= 8 {
				wantGet(t, d, 255, b)
				continue
			}
			wantNone(t, "a long chain", d, 255)
			at := n - 8 // the rest from here on is not too long
			wantNone(t, "a long chain", d, b.Pages[at-1])
			wantGet(t, d, b.Pages[at], bucket.Bucket{Depth: 2, Pages: b.Pages[at:], Recs: b.Recs[min(5*at, len(b.Recs)):]})
		}
	}
}

// 13.3: a chain that runs in a circle has no end, whether its pages have records or not.
func TestGetCircle(t *testing.T) {
	full := recs(5)
	for _, l := range [][]api.Rec{nil, full} {
		wantNone(t, "a page is its own next one", disk{4: laid(1, 4, l...)}, 4)
		wantNone(t, "the last page leads back to the first", disk{4: laid(1, 9, l...), 9: laid(1, 4, l...)}, 4)
		wantNone(t, "the last page leads back to the second", disk{4: laid(1, 9, l...), 9: laid(1, 6, l...), 6: laid(1, 9, l...)}, 4)
		b := with(40, numbered(20, 8)...)
		for _, back := range b.Pages {
			wantNone(t, "the eighth page leads back", diskOf(b).but(13, laid(2, byte(back), l...)), 20)
		}
		circle := disk{}
		for n := 1; n <= 255; n++ {
			circle[n] = laid(1, byte(n%255+1), l...)
		}
		wantNone(t, "all pages", circle, 1)
	}
}

// 13.3, P0: Get asks for each page of the chain once, and for no page that cannot belong to it.
func TestGetAsks(t *testing.T) {
	b := with(12, 4, 9, 6)
	d := diskOf(b)
	var asked []int
	bucket.Get(4, func(n int) (api.Page, bool) {
		asked = append(asked, n)
		return d.at(n)
	})
	if !slices.Equal(asked, []int{4, 9, 6}) {
		t.Errorf("asked for %v", asked)
	}
	asked = nil
	bucket.Get(4, func(n int) (api.Page, bool) {
		asked = append(asked, n)
		return laid(2, 4), true
	})
	if len(asked) > 8 {
		t.Errorf("asked for %d pages of a circle", len(asked))
	}
}

// 13.3: all pages of a bucket have the same Depth, and it is not above MaxDepth.
func TestGetDepths(t *testing.T) {
	for depth := range 256 {
		for other := range 256 {
			d := disk{4: laid(byte(depth), 9, recs(5)...), 9: laid(byte(other), 0, recs(2)...)}
			if depth == other && depth <= 6 {
				wantGet(t, d, 4, bucket.Bucket{Depth: depth, Pages: []int{4, 9}, Recs: append(recs(5), recs(2)...)})
			} else {
				wantNone(t, "other depths", d, 4)
			}
		}
	}
	for at := 1; at < 8; at++ {
		b := with(40, numbered(20, 8)...)
		wantNone(t, "another depth further on", diskOf(b).but(20-at, laid(3, byte(19-at), b.Recs[5*at:5*at+5]...)), 20)
	}
}

// 13.3: a page has the next five records, as far as there are any: none may follow one that is not full.
func TestGetShares(t *testing.T) {
	for a := range 6 {
		for b := range 6 {
			for c := range 6 {
				l := recs(a + b + c)
				d := disk{4: laid(2, 9, l[:a]...), 9: laid(2, 6, l[a:a+b]...), 6: laid(2, 0, l[a+b:]...)}
				if (a == 5 || b == 0 && c == 0) && (b == 5 || c == 0) {
					wantGet(t, d, 4, bucket.Bucket{Depth: 2, Pages: []int{4, 9, 6}, Recs: l})
				} else {
					wantNone(t, "a page that is not full", d, 4)
				}
			}
		}
	}
}

// 13.3: behind the records there are zero bytes alone, on each page.
func TestGetBytesBehind(t *testing.T) {
	b := with(7, 4, 9)
	d := diskOf(b)
	for page, end := range map[int]int{4: 4 + 5*41, 9: 4 + 2*41} {
		for i := end; i < 224; i++ {
			for _, c := range []byte{1, 0x80, 0xff, 'B'} {
				p := d[page]
				p[i] = c
				wantNone(t, "bytes behind the records", d.but(page, p), 4)
			}
		}
	}
	for i := 4; i < 224; i++ {
		p := laid(2, 0)
		p[i] = 1
		wantNone(t, "bytes on a page without records", disk{4: p}, 4)
	}
}

// 13.3: a count that is smaller or larger than the number of records, or larger than a page has room for.
func TestGetCounts(t *testing.T) {
	for n := range 6 {
		for count := range 256 {
			p := laid(2, 0, recs(6)[1:n+1]...) // no record of zero bytes
			p[3] = byte(count)
			got, ok := bucket.Get(4, disk{4: p}.at)
			switch {
			case count < n:
				wantNone(t, "a count that is too small", disk{4: p}, 4)
			case count > 5:
				wantNone(t, "a count that is too large", disk{4: p}, 4)
			default:
				// Zero bytes are records, too: those without an Id, a Key, and a value.
				want := append(recs(6)[1:n+1], make([]api.Rec, count-n)...)
				if !ok || !slices.Equal(got.Recs, want) {
					t.Errorf("%d records, count %d: Get = %v, %v", n, count, got, ok)
				}
			}
		}
	}
}

// 13.3: a count of more records than fit is not taken for one that does, not even of bytes that all are records.
func TestGetCountOfZeroBytes(t *testing.T) {
	for count := range 256 {
		d := disk{4: api.Page{'B', 0, 0, byte(count)}}
		if count > 5 {
			wantNone(t, "too many records of zero bytes", d, 4)
		} else {
			wantGet(t, d, 4, bucket.Bucket{Pages: []int{4}, Recs: make([]api.Rec, count)})
		}
	}
}

// 13.3: a record with an invalid byte for its ghost, or an invalid field, on any place of any page.
func TestGetInvalidRecords(t *testing.T) {
	b := bucket.Bucket{Depth: 2, Pages: []int{4, 9}}
	for i := range 10 {
		b.Recs = append(b.Recs, api.Rec{Id: uint64(i), Val: "ab"})
	}
	d := diskOf(b)
	for _, page := range b.Pages {
		for i := range 5 {
			at := 4 + 41*i + 24 // the byte for the ghost; the field follows
			for _, c := range []struct {
				name   string
				offset int
				value  byte
			}{
				{"a ghost of 2", 0, 2},
				{"a ghost of 255", 0, 255},
				{"a length of 16", 1, 16},
				{"a length of 255", 1, 255},
				{"a length of 1, which leaves a byte behind the value", 1, 1},
				{"a length of 0, which leaves bytes behind the value", 1, 0},
				{"a byte behind the value", 4, 1},
				{"a last byte behind the value", 16, 1},
			} {
				p := d[page]
				p[at+c.offset] = c.value
				wantNone(t, c.name, d.but(page, p), 4)
			}
		}
	}
}

// 13.3: each page begins with 'B'.
func TestGetFirstByte(t *testing.T) {
	b := with(7, 4, 9)
	d := diskOf(b)
	for _, page := range b.Pages {
		for c := range 256 {
			p := d[page]
			p[0] = byte(c)
			if c == 'B' {
				wantGet(t, d.but(page, p), 4, b)
			} else {
				wantNone(t, "another first byte", d.but(page, p), 4)
			}
		}
	}
	wantNone(t, "a zero page", disk{4: {}}, 4)
	wantNone(t, "a page of a region", disk{4: {'R', 0, 0}}, 4)
}

// 13.3, 13.4 and P6: pages with any byte changed are those of no bucket, or of the one whose Put they are.
func TestOneEncoding(t *testing.T) {
	for _, n := range []int{0, 2, 5, 7, 10} {
		b := with(n, 4, 9)
		d := diskOf(b)
		for _, page := range b.Pages {
			for i := range 224 {
				for _, c := range []byte{0, 1, 2, 3, 9, 16, 66, 255} {
					p := d[page]
					p[i] = c
					changed := d.but(page, p)
					got, ok := bucket.Get(4, changed.at)
					if !ok {
						wantNone(t, "a changed byte", changed, 4)
						continue
					}
					for _, image := range got.Put() {
						if image.P != changed[image.Page] {
							t.Fatalf("byte %d of page %d is %d: Get = %v, which has other pages", i, page, c, got)
						}
					}
					if len(got.Put()) != len(got.Pages) || got.Pages[0] != 4 {
						t.Fatalf("byte %d of page %d is %d: Get = %v", i, page, c, got)
					}
				}
			}
		}
	}
}

// 13.4 and P6: every bucket that Put takes is decoded from its pages, other ones beside them.
func TestRoundTrip(t *testing.T) {
	next := noise(4)
	for range 3000 {
		b := anyBucket(next, 8)
		d := disk{}
		for n := 1; n <= 255; n++ {
			d[n] = laid(byte(n%7), byte(n*7%256), recs(n%6)...)
		}
		for _, image := range b.Put() {
			d[image.Page] = image.P
		}
		wantGet(t, d, b.Pages[0], b)
	}
}

// 13.4: ghosts, empty values and values of MaxValue bytes, numbers at their limits, records that are equal.
func TestRoundTripLimits(t *testing.T) {
	const top = math.MaxUint64
	for _, r := range []api.Rec{
		{},
		{Ghost: true},
		{Id: top, Key: top, X: math.MaxUint32, Y: math.MaxUint32, Val: strings.Repeat("\xff", 15), Ghost: true},
		{Id: 1 << 63, Key: 1, X: 1 << 31, Y: 1, Val: strings.Repeat("\x00", 15)},
		{Val: "\x00"},
		{Val: strings.Repeat("\x00", 14) + "z"},
		{Val: "a\x00b\x00"},
		{Val: "äß\xfe"},
		{Key: 1 << 32, X: 0x01020304, Val: "BBBB"},
	} {
		for pages := 1; pages <= 8; pages++ {
			for n := range 5*pages + 1 {
				b := bucket.Bucket{Depth: 6, Pages: numbered(255, pages), Recs: slices.Repeat([]api.Rec{r}, n)}
				wantGet(t, diskOf(b), 255, b)
			}
		}
	}
	for n := range 16 {
		b := with(0, 1)
		b, _ = b.Add(api.Rec{Val: "abcdefghijklmno"[:n]})
		wantGet(t, diskOf(b), 1, b)
	}
}

// 13.4: all depths and all numbers of pages.
func TestRoundTripNumbers(t *testing.T) {
	for depth := range 7 {
		for n := 1; n <= 255; n++ {
			b := bucket.Bucket{Depth: depth, Pages: []int{n, n%255 + 1}, Recs: recs(6)}
			wantGet(t, diskOf(b), n, b)
		}
	}
}

// 13.3 and R3: what Get returns is the caller's, and does not change any page.
func TestGetMemory(t *testing.T) {
	b := with(7, 4, 9)
	d := diskOf(b)
	one, _ := bucket.Get(4, d.at)
	two, _ := bucket.Get(4, d.at)
	scribble(one)
	wantBucket(t, "another result", two, b)
	wantGet(t, d, 4, b)
	more, code := two.Add(api.Rec{Id: 50})
	other, _ := two.Add(api.Rec{Id: 51})
	if code != api.OK || more.Recs[7].Id != 50 || other.Recs[7].Id != 51 {
		t.Errorf("additions to a decoded bucket: %v, %v", more, other)
	}
}

// P6: what Get and Put return hangs on their arguments alone, whatever was called before.
func TestSameAgain(t *testing.T) {
	next := noise(6)
	var buckets []bucket.Bucket
	var puts [][]api.Image
	for range 50 {
		b := anyBucket(next, 8)
		buckets, puts = append(buckets, b), append(puts, b.Put())
	}
	for range 3 {
		for i, b := range buckets {
			if !slices.Equal(b.Put(), puts[i]) {
				t.Fatalf("Put of %v has changed", b)
			}
			wantGet(t, diskOf(b), b.Pages[0], b)
			wantNone(t, "nothing there", disk{}, b.Pages[0])
		}
	}
}
