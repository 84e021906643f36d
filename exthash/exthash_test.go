package exthash_test

import (
	"cmp"
	"maps"
	"math"
	"slices"
	"strconv"
	"strings"
	"testing"

	"counterpane/api"
	"counterpane/bucket"
	"counterpane/exthash"
	"counterpane/mix"
)

// number returns the number with these binary digits.
func number(bits string) uint64 {
	n := uint64(0)
	for _, c := range bits {
		n = n<<1 | uint64(c-'0')
	}
	return n
}

// digits returns the lowest n binary digits of a number.
func digits(x uint64, n int) string {
	s := make([]byte, n)
	for i := range n {
		s[n-1-i] = '0' + byte(x>>i&1)
	}
	return string(s)
}

// key returns the key whose hash ends with these at most eight bits, with n ahead of them.
func key(bits string, n uint64) uint64 {
	return mix.Unmix(n<<8 | number(bits))
}

// rec returns the record with this number whose key's hash ends with these bits.
func rec(bits string, id uint64) api.Rec {
	return api.Rec{Id: id, Key: key(bits, id), X: uint32(id) * 3, Y: uint32(id) + 1, Val: strconv.Itoa(int(id)), Ghost: id%4 == 3}
}

// recs returns the records with the numbers from one on.
func recs(bits string, from, n uint64) []api.Rec {
	var l []api.Rec
	for i := range n {
		l = append(l, rec(bits, from+i))
	}
	return l
}

// part is a bucket, and the hash bits for which it stands; its Depth is how many they are.
type part struct {
	bits  string
	pages []int
	recs  []api.Rec
}

// on returns a part with one page.
func on(page int, bits string, l ...api.Rec) part {
	return part{bits: bits, pages: []int{page}, recs: l}
}

// hashOf returns the hash of these buckets.
func hashOf(global int, parts ...part) exthash.Hash {
	h := exthash.Hash{Global: global, B: map[int]bucket.Bucket{}}
	for _, p := range parts {
		h.B[p.pages[0]] = bucket.Bucket{Depth: len(p.bits), Pages: slices.Clone(p.pages), Recs: slices.Clone(p.recs)}
	}
	for i := range uint64(1) << global {
		entry := digits(i, global)
		for _, p := range parts {
			if strings.HasSuffix(entry, p.bits) {
				h.Dir = append(h.Dir, p.pages[0])
			}
		}
	}
	return h
}

// around returns empty buckets, on the pages from 101 on, for all keys whose hashes do not end with these bits.
func around(bits string) []part {
	var l []part
	for i := range bits {
		l = append(l, on(101+i, string('0'+'1'-bits[i])+bits[i+1:]))
	}
	return l
}

// among returns the hash of these buckets and of those around the bits.
func among(global int, bits string, parts ...part) exthash.Hash {
	return hashOf(global, append(parts, around(bits)...)...)
}

// uneven is a hash of buckets of several depths.
func uneven() exthash.Hash {
	return hashOf(3,
		on(9, "0", rec("10100", 20), rec("00010", 3), rec("110", 41)),
		on(4, "01", rec("1101", 11), rec("0001", 2)),
		on(200, "011", recs("011", 5, 5)...),
		on(7, "111"))
}

// copyOf returns a hash that shares no memory with h.
func copyOf(h exthash.Hash) exthash.Hash {
	out := exthash.Hash{Global: h.Global, Dir: slices.Clone(h.Dir), B: map[int]bucket.Bucket{}}
	for first, b := range h.B {
		out.B[first] = bucket.Bucket{Depth: b.Depth, Pages: slices.Clone(b.Pages), Recs: slices.Clone(b.Recs)}
	}
	return out
}

func sameBucket(a, b bucket.Bucket) bool {
	return a.Depth == b.Depth && slices.Equal(a.Pages, b.Pages) && slices.Equal(a.Recs, b.Recs)
}

func same(a, b exthash.Hash) bool {
	return a.Global == b.Global && slices.Equal(a.Dir, b.Dir) && maps.EqualFunc(a.B, b.B, sameBucket)
}

func wantHash(t *testing.T, name string, got, want exthash.Hash) {
	t.Helper()
	if !same(got, want) {
		t.Fatalf("%s:\n%v, want\n%v", name, got, want)
	}
}

func wantSound(t *testing.T, name string, h exthash.Hash) {
	t.Helper()
	if !h.Sound() {
		t.Fatalf("%s: not sound: %v", name, h)
	}
}

// noise returns a function that returns numbers in [0, n) that look like random ones.
func noise(seed uint64) func(n int) int {
	return func(n int) int {
		seed = seed*6364136223846793005 + 1442695040888963407
		return int(seed>>33) % n
	}
}

// 14.2 to 14.4: the constants of the chapter.
func TestConstants(t *testing.T) {
	kinds := []int{exthash.Nothing, exthash.Doubled, exthash.Split, exthash.Chained, exthash.Unchain, exthash.Merged, exthash.Halved}
	if !slices.Equal(kinds, []int{0, 1, 2, 3, 4, 5, 6}) || exthash.MaxMerge != 2 {
		t.Error("a constant is wrong")
	}
}

// 14.1: one bucket of Depth 0 on the page, for all keys.
func TestNew(t *testing.T) {
	for _, page := range []int{1, 2, 119, 255, 256, 1 << 40, math.MaxInt} {
		h := exthash.New(page)
		wantHash(t, "New", h, exthash.Hash{Dir: []int{page}, B: map[int]bucket.Bucket{page: {Pages: []int{page}}}})
		wantSound(t, "New", h)
		if l := h.Firsts(); !slices.Equal(l, []int{page}) {
			t.Errorf("Firsts = %v", l)
		}
		if l := h.All(); len(l) != 0 {
			t.Errorf("All = %v", l)
		}
		for _, k := range []uint64{0, 1, 2, 77, math.MaxUint64} {
			if h.Where(k) != page || !sameBucket(h.At(k), bucket.Bucket{Pages: []int{page}}) {
				t.Errorf("the bucket of %d is %v on page %d", k, h.At(k), h.Where(k))
			}
		}
	}
}

// 14.1: two new hashes share nothing.
func TestNewTwice(t *testing.T) {
	a, b := exthash.New(3), exthash.New(3)
	scribble(a)
	wantHash(t, "New", b, hashOf(0, on(3, "")))
}

// 14.1: the lowest hash bits lead to the bucket; the ones above Global do not matter.
func TestWhere(t *testing.T) {
	h := uneven()
	wantSound(t, "uneven", h)
	if !slices.Equal(h.Dir, []int{9, 4, 9, 200, 9, 4, 9, 7}) {
		t.Fatalf("Dir = %v", h.Dir)
	}
	for i := range uint64(8) {
		for _, above := range []uint64{0, 1, 2, 1 << 20, math.MaxUint64 >> 3} {
			k := mix.Unmix(above<<3 | i)
			want := []int{9, 4, 9, 200, 9, 4, 9, 7}[i]
			if got := h.Where(k); got != want {
				t.Errorf("Where of bits %03b, with %b above, = %d, want %d", i, above, got, want)
			}
			if got := h.At(k); !sameBucket(got, uneven().B[want]) {
				t.Errorf("At of bits %03b = %v, want %v", i, got, uneven().B[want])
			}
		}
	}
}

// 14.1: with Global of any size.
func TestWhereOfGlobals(t *testing.T) {
	for global := range 7 {
		var parts []part
		for i := range 1 << global {
			bits := digits(uint64(i), global)
			parts = append(parts, on(200-i, bits, rec(bits, uint64(i))))
		}
		h := hashOf(global, parts...)
		wantSound(t, "a hash whose buckets have equal depths", h)
		for i := range uint64(64) {
			k := key(digits(i, 8), 5)
			want := 200 - int(i)%(1<<global)
			if h.Where(k) != want || h.At(k).Pages[0] != want {
				t.Errorf("Global %d: Where of bits %06b = %d, want %d", global, i, h.Where(k), want)
			}
		}
		wantAll(t, h)
	}
}

// 14.1: ascending first pages, and no others.
func TestFirsts(t *testing.T) {
	long := part{bits: "000000", pages: []int{50, 2, 3}}
	for _, c := range []struct {
		h    exthash.Hash
		want []int
	}{
		{exthash.New(8), []int{8}},
		{uneven(), []int{4, 7, 9, 200}},
		{hashOf(4, on(30, "1"), on(20, "0")), []int{20, 30}},
		{among(6, "000000", long), []int{50, 101, 102, 103, 104, 105, 106}},
	} {
		if got := c.h.Firsts(); !slices.Equal(got, c.want) {
			t.Errorf("Firsts = %v, want %v", got, c.want)
		}
	}
}

// crowd is a hash with ghosts, several records with the same key, and an Id that two records with other keys have.
func crowd() exthash.Hash {
	k, l := key("01", 1), key("01", 2)
	return hashOf(2,
		on(3, "0", api.Rec{Id: 9, Key: key("10", 1), Val: "i"}),
		on(2, "01",
			api.Rec{Id: 1, Key: k, Val: "a", Ghost: true},
			api.Rec{Id: 2, Key: l, Val: "b"},
			api.Rec{Id: 3, Key: k, X: 4, Y: 5, Val: "c"},
			api.Rec{Id: 4, Key: k, Val: "d"},
			api.Rec{Id: 0, Key: key("01", 3), Val: "e", Ghost: true}),
		on(1, "11", api.Rec{Id: 2, Key: key("11", 7), Val: "f"}))
}

// 14.2: Find returns the live record of a key: neither a ghost nor one with another key.
func TestFind(t *testing.T) {
	h := crowd()
	for _, c := range []struct {
		key  uint64
		want string // the Val; "": there is none
	}{
		{key("01", 1), "c"},
		{key("01", 2), "b"},
		{key("01", 3), ""}, // a ghost alone
		{key("01", 4), ""},
		{key("11", 7), "f"},
		{key("11", 1), ""},
		{key("10", 1), "i"},
		{key("00", 1), ""},
	} {
		got, ok := h.Find(c.key)
		if ok != (c.want != "") || got.Val != c.want || !ok && got != (api.Rec{}) {
			t.Errorf("Find(%x) = %v, %v, want %q", c.key, got, ok, c.want)
		}
	}
	if r, _ := h.Find(key("01", 1)); r != (api.Rec{Id: 3, Key: key("01", 1), X: 4, Y: 5, Val: "c"}) {
		t.Errorf("Find = %v", r)
	}
	if r, ok := exthash.New(1).Find(0); ok || r != (api.Rec{}) {
		t.Errorf("Find without records = %v, %v", r, ok)
	}
}

// 14.2: Get returns the record with this Id, a ghost or not, if it has this key.
func TestGet(t *testing.T) {
	h := crowd()
	for _, c := range []struct {
		key, id uint64
		want    string // the Val; "": there is none
	}{
		{key("01", 1), 1, "a"},
		{key("01", 1), 3, "c"},
		{key("01", 1), 4, "d"},
		{key("01", 2), 2, "b"},
		{key("01", 3), 0, "e"},
		{key("11", 7), 2, "f"},
		{key("10", 1), 9, "i"},
		{key("01", 1), 2, ""}, // that Id has another key
		{key("01", 2), 3, ""},
		{key("01", 4), 1, ""}, // no record has the key
		{key("01", 1), 9, ""}, // that Id is in another bucket
		{key("01", 1), 5, ""},
		{key("11", 7), 7, ""},
		{key("00", 1), 1, ""},
		{key("00", 1), 0, ""},
	} {
		got, ok := h.Get(c.key, c.id)
		if ok != (c.want != "") || got.Val != c.want || !ok && got != (api.Rec{}) {
			t.Errorf("Get(%x, %d) = %v, %v, want %q", c.key, c.id, got, ok, c.want)
		}
	}
	if r, ok := h.Get(key("01", 1), 1); !ok || r != (api.Rec{Id: 1, Key: key("01", 1), Val: "a", Ghost: true}) {
		t.Errorf("Get of a ghost = %v", r)
	}
}

// 14.2: Get looks at the first record with the Id alone; merging brings two of them into one bucket.
func TestGetFirst(t *testing.T) {
	a, b := rec("0", 1), rec("1", 1)
	h := hashOf(0, on(1, "", a, b))
	if got, ok := h.Get(a.Key, 1); !ok || got != a {
		t.Errorf("Get of the first one = %v, %v", got, ok)
	}
	if got, ok := h.Get(b.Key, 1); ok || got != (api.Rec{}) {
		t.Errorf("Get of the second one = %v, %v", got, ok)
	}
}

// change returns the hash in which the bucket under this first page has other records.
func change(h exthash.Hash, first int, l ...api.Rec) exthash.Hash {
	out := copyOf(h)
	b := out.B[first]
	out.B[first] = bucket.Bucket{Depth: b.Depth, Pages: b.Pages, Recs: l}
	return out
}

// 14.2: the record stands behind the others of its bucket.
func TestPut(t *testing.T) {
	h := uneven()
	for _, c := range []struct {
		first int
		r     api.Rec
	}{
		{9, rec("0", 77)},
		{9, api.Rec{Id: 11, Key: key("100", 0), Ghost: true}},       // an Id of another bucket
		{9, api.Rec{Id: 1, Key: key("10100", 20), Val: "again"}},    // a key that is there
		{4, api.Rec{Key: key("101", 0), Val: "fifteen bytes.."}},    // the longest value
		{7, api.Rec{Id: math.MaxUint64, Key: mix.Unmix(1<<64 - 1)}}, // into an empty bucket
	} {
		got, code := h.Put(c.r)
		if code != api.OK {
			t.Fatalf("Put(%v): code %d", c.r, code)
		}
		wantHash(t, "Put", got, change(h, c.first, append(slices.Clone(h.B[c.first].Recs), c.r)...))
		wantHash(t, "the earlier hash", h, uneven())
		wantSound(t, "Put", got)
		if back, ok := got.Get(c.r.Key, c.r.Id); !ok || back != c.r {
			t.Errorf("Get of the record that was put = %v, %v", back, ok)
		}
	}
}

// 14.2: each code of the bucket's Add, with the unchanged hash beside it.
func TestPutRejects(t *testing.T) {
	long := strings.Repeat("v", 16)
	for _, c := range []struct {
		name string
		r    api.Rec
		want api.Code
	}{
		{"a full bucket", rec("011", 99), api.ErrFull},
		{"a full bucket with the Id", rec("011", 6), api.ErrFull},
		{"an Id that is there", api.Rec{Id: 3, Key: key("0", 3)}, api.ErrTwice},
		{"a ghost's Id and key", rec("1101", 11), api.ErrTwice},
		{"an Id that is there, a value too long", api.Rec{Id: 2, Key: key("01", 7), Val: long}, api.ErrTwice},
		{"a value too long", api.Rec{Id: 8, Key: key("111", 0), Val: long}, api.ErrSize},
	} {
		h := uneven()
		got, code := h.Put(c.r)
		if code != c.want {
			t.Errorf("%s: code %d, want %d", c.name, code, c.want)
		}
		wantHash(t, c.name, got, uneven())
		wantHash(t, c.name+", the earlier hash", h, uneven())
	}
}

// 14.2: the record is gone, the others stay in their order; the key tells the bucket alone.
func TestDrop(t *testing.T) {
	h := uneven()
	for first, b := range uneven().B {
		for i, r := range b.Recs {
			for _, k := range []uint64{r.Key, mix.Unmix(1<<63 | mix.Mix(r.Key))} {
				got, ok := h.Drop(k, r.Id)
				if !ok {
					t.Fatalf("Drop(%x, %d) is false", k, r.Id)
				}
				wantHash(t, "Drop", got, change(h, first, slices.Delete(slices.Clone(b.Recs), i, i+1)...))
				wantHash(t, "the earlier hash", h, uneven())
				wantSound(t, "Drop", got)
			}
		}
	}
}

// 14.2: Ghost alone changes; the key tells the bucket alone.
func TestMark(t *testing.T) {
	h := uneven()
	for first, b := range uneven().B {
		for i, r := range b.Recs {
			for _, k := range []uint64{r.Key, mix.Unmix(1<<63 | mix.Mix(r.Key))} {
				for _, ghost := range []bool{true, false} {
					got, ok := h.Mark(k, r.Id, ghost)
					if !ok {
						t.Fatalf("Mark(%x, %d) is false", k, r.Id)
					}
					l := slices.Clone(b.Recs)
					l[i].Ghost = ghost
					wantHash(t, "Mark", got, change(h, first, l...))
					wantHash(t, "the earlier hash", h, uneven())
					wantSound(t, "Mark", got)
				}
			}
		}
	}
}

// 14.2: the unchanged hash and false, where the key's bucket has no record with the Id.
func TestDropAndMarkNone(t *testing.T) {
	for _, c := range []struct {
		name    string
		key, id uint64
	}{
		{"a new Id", key("0", 20), 99},
		{"an Id of another bucket", key("0", 20), 11},
		{"an Id of another bucket, from its side", key("01", 11), 20},
		{"an empty bucket", key("111", 5), 5},
		{"no Id at all", key("011", 5), 0},
	} {
		h := uneven()
		got, ok := h.Drop(c.key, c.id)
		if ok {
			t.Errorf("%s: Drop is true", c.name)
		}
		wantHash(t, c.name+", Drop", got, uneven())
		for _, ghost := range []bool{true, false} {
			got, ok = h.Mark(c.key, c.id, ghost)
			if ok {
				t.Errorf("%s: Mark is true", c.name)
			}
			wantHash(t, c.name+", Mark", got, uneven())
		}
		wantHash(t, c.name+", the earlier hash", h, uneven())
	}
}

// 14.2: of several records with the Id in the bucket, the first one.
func TestDropAndMarkFirst(t *testing.T) {
	a, b := rec("0", 1), rec("1", 1)
	h := hashOf(0, on(1, "", a, b))
	got, ok := h.Drop(b.Key, 1)
	if !ok {
		t.Error("Drop is false")
	}
	wantHash(t, "Drop", got, hashOf(0, on(1, "", b)))
	got, ok = h.Mark(b.Key, 1, true)
	if !ok {
		t.Error("Mark is false")
	}
	a.Ghost = true
	wantHash(t, "Mark", got, hashOf(0, on(1, "", a, b)))
}

// wantAll checks All against the records of all buckets.
func wantAll(t *testing.T, h exthash.Hash) {
	t.Helper()
	var want []api.Rec
	for _, b := range h.B {
		want = append(want, b.Recs...)
	}
	slices.SortFunc(want, func(a, b api.Rec) int {
		return cmp.Or(cmp.Compare(a.Id, b.Id), cmp.Compare(a.Key, b.Key))
	})
	if got := h.All(); !slices.Equal(got, want) {
		t.Fatalf("All = %v, want %v", got, want)
	}
}

// 14.2: all records, ghosts too, in ascending order of Id, then of Key.
func TestAll(t *testing.T) {
	var ids []uint64
	for _, r := range uneven().All() {
		ids = append(ids, r.Id)
	}
	if !slices.Equal(ids, []uint64{2, 3, 5, 6, 7, 8, 9, 11, 20, 41}) {
		t.Errorf("All has the Ids %v", ids)
	}
	var vals string
	for _, r := range crowd().All() {
		vals += r.Val
	}
	two := "bf"
	if key("11", 7) < key("01", 2) {
		two = "fb"
	}
	if want := "ea" + two + "cdi"; vals != want {
		t.Errorf("All has the values %q, want %q", vals, want)
	}
	for _, h := range []exthash.Hash{exthash.New(1), uneven(), crowd()} {
		wantAll(t, h)
	}
	for _, n := range []uint64{0, math.MaxUint64, 1 << 63, 1 << 31} { // numbers at the ends of their range
		wantAll(t, hashOf(1, on(1, "0", api.Rec{Id: n, Key: key("0", 1)}, api.Rec{Id: 5, Key: key("0", 2)}), on(2, "1", api.Rec{Id: n, Key: key("1", 1)}, api.Rec{Id: 5, Key: key("1", 2)})))
	}
}

// 14.2: with equal Ids the keys decide, in whichever buckets and in whichever order they are.
func TestAllEqualIds(t *testing.T) {
	var l []api.Rec
	for _, bits := range []string{"000", "100", "010", "110", "001", "101", "011", "111"} {
		l = append(l, api.Rec{Id: 7, Key: key(bits, 1)})
	}
	h := hashOf(3, on(1, "000", l[0]), on(2, "100", l[1]), on(3, "10", l[2:4]...), on(4, "1", l[4:]...))
	slices.SortFunc(l, func(a, b api.Rec) int { return cmp.Compare(a.Key, b.Key) })
	if got := h.All(); !slices.Equal(got, l) {
		t.Errorf("All = %v, want %v", got, l)
	}
}

// states are hashes in which each step of Grow and of Shrink is next for key("000000", 1), and some others.
func states() map[string]exthash.Hash {
	zeros := "000000"
	chain := func(recs []api.Rec, pages ...int) part { return part{bits: zeros, pages: pages, recs: recs} }
	return map[string]exthash.Hash{
		"new":             exthash.New(1),
		"with room":       hashOf(0, on(1, "", recs(zeros, 1, 4)...)),
		"to be doubled":   hashOf(1, on(1, "0", recs(zeros, 1, 5)...), on(2, "1", recs("1", 10, 3)...)),
		"to be split":     hashOf(2, on(1, "0", rec(zeros, 1), rec("10", 2), rec(zeros, 3), rec("10", 4), rec("10", 5)), on(2, "01"), on(3, "11")),
		"to be chained":   among(6, zeros, on(1, zeros, recs(zeros, 1, 5)...)),
		"full":            among(6, zeros, chain(recs(zeros, 1, 40), numbered(40, 8)...)),
		"to be unchained": among(6, zeros, chain(recs(zeros, 1, 4), 9, 3)),
		"to be merged":    hashOf(3, on(1, "00", rec(zeros, 1)), on(2, "10", rec("10", 2)), on(3, "1", recs("1", 10, 3)...)),
		"to be halved":    hashOf(3, on(1, "0", recs(zeros, 1, 3)...), on(2, "1")),
		"with a chain":    among(6, zeros, chain(recs(zeros, 1, 7), 9, 3)),
	}
}

// numbered returns n pages from the first one on.
func numbered(first, n int) []int {
	var l []int
	for i := range n {
		l = append(l, first+i)
	}
	return l
}

// calls are all ways to make a hash of another one.
func calls() map[string]func(h exthash.Hash) exthash.Hash {
	k := key("000000", 1)
	return map[string]func(h exthash.Hash) exthash.Hash{
		"Put":           func(h exthash.Hash) exthash.Hash { g, _ := h.Put(rec("000000", 50)); return g },
		"another Put":   func(h exthash.Hash) exthash.Hash { g, _ := h.Put(rec("000000", 60)); return g },
		"Put of the Id": func(h exthash.Hash) exthash.Hash { g, _ := h.Put(rec("000000", 1)); return g },
		"Put elsewhere": func(h exthash.Hash) exthash.Hash { g, _ := h.Put(rec("1", 70)); return g },
		"Put of the size": func(h exthash.Hash) exthash.Hash {
			g, _ := h.Put(api.Rec{Key: k, Val: strings.Repeat("v", 16)})
			return g
		},
		"Drop":              func(h exthash.Hash) exthash.Hash { g, _ := h.Drop(k, 1); return g },
		"Drop of none":      func(h exthash.Hash) exthash.Hash { g, _ := h.Drop(k, 99); return g },
		"Mark":              func(h exthash.Hash) exthash.Hash { g, _ := h.Mark(k, 1, true); return g },
		"Mark of none":      func(h exthash.Hash) exthash.Hash { g, _ := h.Mark(k, 99, true); return g },
		"Grow":              func(h exthash.Hash) exthash.Hash { g, _, _ := h.Grow(k, 80); return g },
		"Grow with no page": func(h exthash.Hash) exthash.Hash { g, _, _ := h.Grow(k, 0); return g },
		"Grow elsewhere":    func(h exthash.Hash) exthash.Hash { g, _, _ := h.Grow(key("1", 1), 81); return g },
		"Shrink":            func(h exthash.Hash) exthash.Hash { g, _, _ := h.Shrink(k); return g },
		"Shrink elsewhere":  func(h exthash.Hash) exthash.Hash { g, _, _ := h.Shrink(key("1", 1)); return g },
	}
}

// reads are all other methods; what they return is written to.
func reads() map[string]func(h exthash.Hash) {
	k := key("000000", 1)
	return map[string]func(h exthash.Hash){
		"Where, Find, Get, Sound": func(h exthash.Hash) { h.Where(k); h.Find(k); h.Get(k, 1); h.Sound() },
		"At": func(h exthash.Hash) {
			b := h.At(k)
			scribble(exthash.Hash{B: map[int]bucket.Bucket{1: b}})
		},
		"All": func(h exthash.Hash) {
			l := h.All()
			scribble(exthash.Hash{B: map[int]bucket.Bucket{1: {Recs: l}}})
		},
		"Firsts": func(h exthash.Hash) { scribble(exthash.Hash{Dir: h.Firsts(), B: map[int]bucket.Bucket{}}) },
	}
}

// scribble writes to all memory of a hash, and behind it.
func scribble(h exthash.Hash) {
	for i := range h.Dir[:cap(h.Dir)] {
		h.Dir[:cap(h.Dir)][i] = -7
	}
	for _, b := range h.B {
		for i := range b.Pages[:cap(b.Pages)] {
			b.Pages[:cap(b.Pages)][i] = -8
		}
		for i := range b.Recs[:cap(b.Recs)] {
			b.Recs[:cap(b.Recs)][i] = api.Rec{Id: 7777, Val: "scribbled"}
		}
	}
	clear(h.B)
	h.B[-9] = bucket.Bucket{Depth: 5}
}

// spare returns an equal hash, behind whose lists there is memory with other elements, and a function that fails the test if the hash or that memory has changed.
func spare(h exthash.Hash) (exthash.Hash, func(t *testing.T, name string)) {
	out := exthash.Hash{Global: h.Global, Dir: append(slices.Clone(h.Dir), 71, 72, 73)[:len(h.Dir)], B: map[int]bucket.Bucket{}}
	for first, b := range h.B {
		out.B[first] = bucket.Bucket{Depth: b.Depth,
			Pages: append(slices.Clone(b.Pages), 91, 92)[:len(b.Pages)],
			Recs:  append(slices.Clone(b.Recs), api.Rec{Id: 901}, api.Rec{Id: 902})[:len(b.Recs)]}
	}
	all := maps.Clone(out.B)
	return out, func(t *testing.T, name string) {
		t.Helper()
		wantHash(t, "behind "+name+", the earlier hash", out, h)
		if !slices.Equal(out.Dir[len(out.Dir):len(out.Dir)+3], []int{71, 72, 73}) {
			t.Fatalf("%s wrote behind the directory", name)
		}
		for _, b := range all {
			n, m := len(b.Pages), len(b.Recs)
			if !slices.Equal(b.Pages[n:n+2], []int{91, 92}) || b.Recs[m : m+2][0].Id != 901 || b.Recs[m : m+2][1].Id != 902 {
				t.Fatalf("%s wrote behind a bucket", name)
			}
		}
	}
}

// 14.1 and R3: every method leaves the earlier hash, and the memory behind it, as it was, also if its result is written to.
func TestValue(t *testing.T) {
	for state, base := range states() {
		for name, call := range calls() {
			h, unchanged := spare(base)
			out := call(h)
			unchanged(t, name+" of a hash "+state)
			scribble(out)
			unchanged(t, name+" of a hash "+state+", and a write to its result")
		}
		for name, read := range reads() {
			h, unchanged := spare(base)
			read(h)
			unchanged(t, name+" of a hash "+state)
		}
	}
}

// 14.1 and R3: a result does not change when the earlier hash is written to.
func TestValueApart(t *testing.T) {
	for state, base := range states() {
		for name, call := range calls() {
			want := call(copyOf(base))
			h, _ := spare(base)
			out := call(h)
			scribble(h)
			wantHash(t, name+" of a hash "+state, out, want)
		}
		h, _ := spare(base)
		b, l, firsts := h.At(0), h.All(), h.Firsts()
		scribble(h)
		if !sameBucket(b, base.At(0)) || !slices.Equal(l, base.All()) || !slices.Equal(firsts, base.Firsts()) {
			t.Errorf("a hash %s: At, All or Firsts changed with it", state)
		}
	}
}

// 14.1: two results of one hash, in either order, do not disturb each other; nor does a call on one of them.
func TestTwoResults(t *testing.T) {
	for state, base := range states() {
		for name, call := range calls() {
			for other, second := range calls() {
				where := name + " and " + other + " of a hash " + state
				wantOne, wantTwo := call(copyOf(base)), second(copyOf(base))
				wantThree := second(copyOf(wantOne))
				h, unchanged := spare(base)
				one, two := call(h), second(h)
				three := second(one)
				wantHash(t, where+", the first result", one, wantOne)
				wantHash(t, where+", the second result", two, wantTwo)
				wantHash(t, where+", the one from the first", three, wantThree)
				scribble(two)
				scribble(three)
				wantHash(t, where+", the first result, the others written to", one, wantOne)
				unchanged(t, where)
			}
		}
	}
}

func wantGrow(t *testing.T, name string, h exthash.Hash, k uint64, page int, want exthash.Hash, kind int, code api.Code) {
	t.Helper()
	before := copyOf(h)
	got, gotKind, gotCode := h.Grow(k, page)
	if gotKind != kind || gotCode != code {
		t.Errorf("%s: Grow = kind %d, code %d, want %d, %d", name, gotKind, gotCode, kind, code)
	}
	wantHash(t, name, got, want)
	wantHash(t, name+", the earlier hash", h, before)
	wantSound(t, name+", the earlier hash", h)
	wantSound(t, name, got)
}

// 14.3: with Room there is nothing to do, for any page and any depth.
func TestGrowRoom(t *testing.T) {
	for depth := range 7 {
		bits := "010110"[6-depth:]
		for global := depth; global < 7; global++ {
			for n := range uint64(5) {
				h := among(global, bits, on(1, bits, recs(bits, 0, n)...))
				for _, page := range []int{50, 1, 0, -1, math.MinInt} {
					wantGrow(t, "a bucket with room", h, key(bits, 9), page, h, exthash.Nothing, api.OK)
				}
			}
		}
	}
	for n := uint64(36); n < 40; n++ {
		h := among(6, "111111", part{bits: "111111", pages: numbered(30, 8), recs: recs("111111", 0, n)})
		for _, page := range []int{50, 0} {
			wantGrow(t, "the longest chain with room", h, key("111111", 9), page, h, exthash.Nothing, api.OK)
		}
	}
}

// 14.3: the directory doubles where the bucket is as deep as it tells; the page does not matter, nor do others with room.
func TestGrowDoubled(t *testing.T) {
	for depth := range 6 {
		bits := "10110"[5-depth:]
		parts := append(around(bits), on(1, bits, recs(bits, 0, 5)...))
		for _, page := range []int{50, 1, 0, -1, math.MinInt} {
			wantGrow(t, "a full bucket", hashOf(depth, parts...), key(bits, 9), page, hashOf(depth+1, parts...), exthash.Doubled, api.OK)
		}
	}
}

// 14.3: the second half of the directory is a copy of the first one.
func TestGrowDoubledDirectory(t *testing.T) {
	got, kind, code := uneven().Grow(key("011", 1), 0)
	if kind != exthash.Doubled || code != api.OK || got.Global != 4 {
		t.Fatalf("Grow = %v, %d, %d", got, kind, code)
	}
	if !slices.Equal(got.Dir, []int{9, 4, 9, 200, 9, 4, 9, 7, 9, 4, 9, 200, 9, 4, 9, 7}) {
		t.Errorf("Dir = %v", got.Dir)
	}
	if !maps.EqualFunc(got.B, uneven().B, sameBucket) {
		t.Errorf("the buckets are %v", got.B)
	}
}

// 14.3: the records whose next bit is 1 move in their order, and exactly their entries lead to the page.
func TestGrowSplit(t *testing.T) {
	for depth := range 6 {
		bits := "01101"[5-depth:]
		for global := depth + 1; global < 7; global++ {
			for moved := range 32 { // which of the five records move
				var all, low, high []api.Rec
				for i := range uint64(5) {
					next := digits(uint64(moved)>>i, 1)
					r := rec(next+bits, 20-i)
					all = append(all, r)
					if next == "1" {
						high = append(high, r)
					} else {
						low = append(low, r)
					}
				}
				h := among(global, bits, on(33, bits, all...))
				want := among(global, bits, on(33, "0"+bits, low...), on(12, "1"+bits, high...))
				for _, k := range []uint64{all[0].Key, key("0"+bits, 99), key("1"+bits, 99)} {
					wantGrow(t, "a full bucket", h, k, 12, want, exthash.Split, api.OK)
				}
			}
		}
	}
}

// 14.3: which entries lead to which page.
func TestGrowSplitDirectory(t *testing.T) {
	h := hashOf(4, on(9, "1", rec("001", 1), rec("011", 2), rec("011", 3), rec("001", 4), rec("011", 5)), on(4, "0"))
	got, kind, code := h.Grow(key("1", 0), 77)
	if kind != exthash.Split || code != api.OK || got.Global != 4 {
		t.Fatalf("Grow = %v, %d, %d", got, kind, code)
	}
	if !slices.Equal(got.Dir, []int{4, 9, 4, 77, 4, 9, 4, 77, 4, 9, 4, 77, 4, 9, 4, 77}) {
		t.Errorf("Dir = %v", got.Dir)
	}
	if b := got.B[9]; !sameBucket(b, bucket.Bucket{Depth: 2, Pages: []int{9}, Recs: []api.Rec{rec("001", 1), rec("001", 4)}}) {
		t.Errorf("the old bucket is %v", b)
	}
	if b := got.B[77]; !sameBucket(b, bucket.Bucket{Depth: 2, Pages: []int{77}, Recs: []api.Rec{rec("011", 2), rec("011", 3), rec("011", 5)}}) {
		t.Errorf("the new bucket is %v", b)
	}
}

// 14.3: a bucket of the largest depth gets one page more, up to eight.
func TestGrowChained(t *testing.T) {
	for _, bits := range []string{"000000", "111111", "100101"} {
		for n := 1; n < 8; n++ {
			pages := append([]int{90}, numbered(10, n-1)...)
			l := recs(bits, 0, uint64(5*n))
			h := among(6, bits, part{bits: bits, pages: pages, recs: l})
			for _, page := range []int{1, 5, 200} {
				want := among(6, bits, part{bits: bits, pages: append(slices.Clone(pages), page), recs: l})
				wantGrow(t, "a full bucket", h, key(bits, 99), page, want, exthash.Chained, api.OK)
			}
		}
	}
}

// 14.3: without a page a full bucket neither splits nor is chained.
func TestGrowWithoutPage(t *testing.T) {
	for _, page := range []int{0, -1, -255, math.MinInt} {
		for depth := range 7 {
			bits := "101101"[6-depth:]
			for global := min(depth+1, 6); global < 7; global++ {
				h := among(global, bits, on(1, bits, recs(bits, 0, 5)...))
				wantGrow(t, "no page", h, key(bits, 9), page, h, exthash.Nothing, api.ErrFull)
			}
		}
		for n := 1; n <= 8; n++ {
			h := among(6, "000111", part{bits: "000111", pages: numbered(30, n), recs: recs("000111", 0, uint64(5*n))})
			wantGrow(t, "no page for a chain", h, key("000111", 9), page, h, exthash.Nothing, api.ErrFull)
		}
	}
}

// 14.3: a bucket of the largest depth and length does not grow.
func TestGrowMaxChain(t *testing.T) {
	h := among(6, "000111", part{bits: "000111", pages: numbered(30, 8), recs: recs("000111", 0, 40)})
	for _, page := range []int{1, 50, 255} {
		wantGrow(t, "the longest chain", h, key("000111", 9), page, h, exthash.Nothing, api.ErrFull)
	}
}

// 14.3: it is the bucket of the key that grows, not another one that is full, too.
func TestGrowOfKey(t *testing.T) {
	full := func(page int, bits string) part { return on(page, bits, recs(bits, uint64(page)*10, 5)...) }
	h := hashOf(2, full(1, "0"), full(2, "01"), full(3, "11"))
	wantGrow(t, "the shallow one", h, key("0", 1), 9, hashOf(2, on(1, "00", recs("0", 10, 5)...), on(9, "10"), full(2, "01"), full(3, "11")), exthash.Split, api.OK)
	wantGrow(t, "a deep one", h, key("01", 1), 9, hashOf(3, full(1, "0"), full(2, "01"), full(3, "11")), exthash.Doubled, api.OK)
	h, _, _ = h.Grow(key("01", 1), 9)
	wantGrow(t, "the other deep one", h, key("11", 1), 9, hashOf(3, full(1, "0"), full(2, "01"), on(3, "011", recs("11", 30, 5)...), on(9, "111")), exthash.Split, api.OK)
}

func wantShrink(t *testing.T, name string, h exthash.Hash, k uint64, want exthash.Hash, kind, page int) {
	t.Helper()
	before := copyOf(h)
	got, gotKind, gotPage := h.Shrink(k)
	if gotKind != kind || gotPage != page {
		t.Errorf("%s: Shrink = kind %d, page %d, want %d, %d", name, gotKind, gotPage, kind, page)
	}
	wantHash(t, name, got, want)
	wantHash(t, name+", the earlier hash", h, before)
	wantSound(t, name+", the earlier hash", h)
	wantSound(t, name, got)
}

// 14.4: the last of several pages is removed, if the others have room for all records.
func TestShrinkUnchain(t *testing.T) {
	bits := "110100"
	for n := 2; n <= 8; n++ {
		pages := append([]int{90}, numbered(10, n-1)...)
		for records := range uint64(5*n + 1) {
			l := recs(bits, 0, records)
			h := among(6, bits, part{bits: bits, pages: pages, recs: l})
			if int(records) <= 5*(n-1) {
				wantShrink(t, "a chain", h, key(bits, 99), among(6, bits, part{bits: bits, pages: pages[:n-1], recs: l}), exthash.Unchain, pages[n-1])
			} else {
				wantShrink(t, "a full chain", h, key(bits, 99), h, exthash.Nothing, 0)
			}
		}
	}
}

// 14.4: two small buddies become one, on the page of the one whose last bit is 0, whichever of them the key belongs to.
func TestShrinkMerged(t *testing.T) {
	for depth := 1; depth < 7; depth++ {
		bits := "01011"[6-depth:]
		for global := depth; global < 7; global++ {
			for low := range uint64(5) {
				for high := range uint64(5) {
					a, b := recs("0"+bits, 30, low), recs("1"+bits, 10, high)
					for _, first := range []int{8, 80} { // the page with the lower and with the higher number
						h := among(global, bits, on(first, "0"+bits, a...), on(44, "1"+bits, b...))
						want, kind, page := h, exthash.Nothing, 0
						switch {
						case low+high <= 2:
							want, kind, page = among(global, bits, on(first, bits, slices.Concat(a, b)...)), exthash.Merged, 44
						case global > depth:
							want, kind = among(global-1, bits, on(first, "0"+bits, a...), on(44, "1"+bits, b...)), exthash.Halved
						}
						wantShrink(t, "the bucket of bit 0", h, key("0"+bits, 99), want, kind, page)
						wantShrink(t, "the bucket of bit 1", h, key("1"+bits, 99), want, kind, page)
					}
				}
			}
		}
	}
}

// 14.4: ghosts are records, too.
func TestShrinkGhosts(t *testing.T) {
	ghost := func(bits string, id uint64) api.Rec {
		r := rec(bits, id)
		r.Ghost = true
		return r
	}
	h := hashOf(1, on(1, "0", ghost("0", 1), ghost("0", 2)), on(2, "1", ghost("1", 3)))
	wantShrink(t, "three ghosts", h, 0, h, exthash.Nothing, 0)
	h = hashOf(1, on(1, "0", ghost("0", 2)), on(2, "1", ghost("1", 1)))
	wantShrink(t, "two ghosts", h, 0, hashOf(1, on(1, "", ghost("0", 2), ghost("1", 1))), exthash.Merged, 2)
}

// 14.4: a buddy of another depth is none.
func TestShrinkOtherDepth(t *testing.T) {
	h := hashOf(2, on(1, "0"), on(2, "01"), on(3, "11"))
	wantShrink(t, "the shallow one", h, key("0", 0), h, exthash.Nothing, 0)
	merged := hashOf(2, on(1, "0"), on(2, "1"))
	wantShrink(t, "a deep one", h, key("01", 0), merged, exthash.Merged, 3)
	wantShrink(t, "the other deep one", h, key("11", 0), merged, exthash.Merged, 3)
	h = hashOf(2, on(1, "1"), on(2, "00"), on(3, "10"))
	wantShrink(t, "the shallow one of bit 1", h, key("1", 0), h, exthash.Nothing, 0)
}

// 14.4: buckets whose bits differ elsewhere than in the last bit are no buddies.
func TestShrinkLastBit(t *testing.T) {
	h := hashOf(2, on(1, "00", rec("00", 1)), on(2, "10", recs("10", 10, 3)...), on(3, "01", rec("01", 2)), on(4, "11", rec("11", 5)))
	wantShrink(t, "00", h, key("00", 0), h, exthash.Nothing, 0)
	wantShrink(t, "10", h, key("10", 0), h, exthash.Nothing, 0)
	want := hashOf(2, on(1, "00", rec("00", 1)), on(2, "10", recs("10", 10, 3)...), on(3, "1", rec("01", 2), rec("11", 5)))
	wantShrink(t, "01", h, key("01", 0), want, exthash.Merged, 4)
	wantShrink(t, "11", h, key("11", 0), want, exthash.Merged, 4)
}

// 14.4: a bucket of several pages is not merged with its buddy, from either side, before it is unchained.
func TestShrinkSeveralPages(t *testing.T) {
	for _, n := range []uint64{0, 1, 2} {
		for _, bits := range []string{"0", "1"} {
			other := string('0' + '1' - bits[0])
			l := recs(bits+"11010", 0, n)
			long := part{bits: bits + "11010", pages: []int{5, 6}, recs: l}
			h := among(6, "11010", long, on(7, other+"11010"))
			wantShrink(t, "the one of one page", h, key(other+"11010", 0), h, exthash.Nothing, 0)
			short := among(6, "11010", on(5, bits+"11010", l...), on(7, other+"11010"))
			wantShrink(t, "the one of two pages", h, key(bits+"11010", 0), short, exthash.Unchain, 6)
			first, gone := 5, 7
			if bits == "1" {
				first, gone = 7, 5
			}
			wantShrink(t, "behind that", short, key(other+"11010", 0), among(6, "11010", on(first, "11010", l...)), exthash.Merged, gone)
		}
	}
}

// 14.4: the directory halves if it tells more bits than any bucket needs; all keys count, not only this one.
func TestShrinkHalved(t *testing.T) {
	for depth := range 6 {
		bits := "10010"[5-depth:]
		parts := append(around(bits), on(1, bits, recs(bits, 0, 3)...))
		for global := depth + 1; global < 7; global++ {
			wantShrink(t, "a long directory", hashOf(global, parts...), key(bits, 0), hashOf(global-1, parts...), exthash.Halved, 0)
		}
		wantShrink(t, "a directory that is needed", hashOf(depth, parts...), key(bits, 0), hashOf(depth, parts...), exthash.Nothing, 0)
	}
	h := hashOf(3, on(1, "0", rec("0", 1)), on(2, "01", recs("01", 4, 3)...), on(3, "011"), on(4, "111", recs("111", 10, 3)...))
	for _, bits := range []string{"0", "01", "011", "111"} {
		wantShrink(t, "a directory that others need", h, key(bits, 0), h, exthash.Nothing, 0)
	}
	h = hashOf(3, on(1, "0", rec("0", 1)), on(2, "01", recs("01", 4, 3)...), on(3, "11"))
	half := hashOf(2, on(1, "0", rec("0", 1)), on(2, "01", recs("01", 4, 3)...), on(3, "11"))
	for _, bits := range []string{"0", "01", "11"} {
		wantShrink(t, "a directory that nobody needs", h, key(bits, 0), half, exthash.Halved, 0)
	}
}

// 14.4: the directory has the first half of its entries afterwards.
func TestShrinkHalvedDirectory(t *testing.T) {
	h, _, _ := uneven().Grow(key("011", 1), 0)
	got, kind, page := h.Shrink(key("011", 1))
	if kind != exthash.Halved || page != 0 {
		t.Errorf("Shrink = %d, %d", kind, page)
	}
	wantHash(t, "Shrink", got, uneven())
}

// 14.4: merging comes ahead of halving.
func TestShrinkOrder(t *testing.T) {
	h := hashOf(4, on(1, "0", rec("0", 1)), on(2, "01", rec("01", 2)), on(3, "11"))
	k := key("11", 0)
	step := func(want exthash.Hash, kind, page int) {
		t.Helper()
		wantShrink(t, "a step", h, k, want, kind, page)
		h = want
	}
	one := []api.Rec{rec("0", 1), rec("01", 2)}
	step(hashOf(4, on(1, "0", one[0]), on(2, "1", one[1])), exthash.Merged, 3)
	step(hashOf(4, on(1, "", one...)), exthash.Merged, 2)
	for global := 3; global >= 0; global-- {
		step(hashOf(global, on(1, "", one...)), exthash.Halved, 0)
	}
	step(hashOf(0, on(1, "", one...)), exthash.Nothing, 0)
}

// 14.4: unchaining comes ahead of halving.
func TestShrinkUnchainFirst(t *testing.T) {
	// No steps lead to a chain below the largest depth: with one at the largest depth, the directory cannot be halved anyway.
	h := hashOf(3, part{bits: "0", pages: []int{3, 2}, recs: recs("0", 0, 2)}, on(1, "1"))
	wantShrink(t, "a shallow chain", h, key("0", 0), hashOf(3, on(3, "0", recs("0", 0, 2)...), on(1, "1")), exthash.Unchain, 2)
}

// 14.4: one bucket without bits cannot shrink.
func TestShrinkNothing(t *testing.T) {
	for n := range uint64(6) {
		h := hashOf(0, on(1, "", recs("0", 0, n)...))
		wantShrink(t, "one bucket", h, 0, h, exthash.Nothing, 0)
	}
}

// 14.5: hashes that result from the functions are sound; so is one at every limit.
func TestSound(t *testing.T) {
	for name, h := range states() {
		wantSound(t, name, h)
		for call, f := range calls() {
			wantSound(t, call+" of a hash "+name, f(h))
		}
	}
	var parts []part
	for i := range uint64(64) {
		bits := digits(i, 6)
		parts = append(parts, part{bits: bits, pages: numbered(int(i)*8+1, 8), recs: recs(bits, i*40, 40)})
	}
	wantSound(t, "as many full chains as there can be", hashOf(6, parts...))
}

// 14.5: every change to one thing that Sound names is noticed.
func TestSoundBroken(t *testing.T) {
	set := func(h exthash.Hash, first int, f func(b *bucket.Bucket)) {
		b := h.B[first]
		f(&b)
		h.B[first] = b
	}
	for name, breakIt := range map[string]func(h *exthash.Hash){
		"Global less":         func(h *exthash.Hash) { h.Global-- },
		"Global more":         func(h *exthash.Hash) { h.Global++ },
		"Global negative":     func(h *exthash.Hash) { h.Global = -1 },
		"Global least":        func(h *exthash.Hash) { h.Global = math.MinInt },
		"Global most":         func(h *exthash.Hash) { h.Global = math.MaxInt },
		"Global 64 more":      func(h *exthash.Hash) { h.Global += 64 },
		"no directory":        func(h *exthash.Hash) { h.Dir = nil },
		"an entry less":       func(h *exthash.Hash) { h.Dir = h.Dir[:7] },
		"an entry more":       func(h *exthash.Hash) { h.Dir = append(h.Dir, 9) },
		"half a directory":    func(h *exthash.Hash) { h.Dir = h.Dir[:4] },
		"twice the directory": func(h *exthash.Hash) { h.Dir = append(h.Dir, h.Dir...) },
		"an entry elsewhere":  func(h *exthash.Hash) { h.Dir[2] = 4 },
		"an entry nowhere":    func(h *exthash.Hash) { h.Dir[5] = 33 },
		"an entry 0":          func(h *exthash.Hash) { h.Dir[0] = 0 },
		"entries swapped":     func(h *exthash.Hash) { h.Dir[0], h.Dir[1] = h.Dir[1], h.Dir[0] },
		"empty ones swapped":  func(h *exthash.Hash) { h.Dir[2], h.Dir[7] = h.Dir[7], h.Dir[2] },
		"no buckets":          func(h *exthash.Hash) { h.B = nil },
		"a bucket less":       func(h *exthash.Hash) { delete(h.B, 7) },
		"a bucket nobody leads to": func(h *exthash.Hash) {
			h.B[33] = bucket.Bucket{Depth: 3, Pages: []int{33}}
		},
		"the same bucket under another page": func(h *exthash.Hash) { h.B[33] = h.B[7] },
		"moved to another page": func(h *exthash.Hash) {
			h.B[33] = h.B[7]
			delete(h.B, 7)
			h.Dir[7] = 33
		},
		"a first page that is another one": func(h *exthash.Hash) { set(*h, 7, func(b *bucket.Bucket) { b.Pages[0] = 33 }) },
		"a page ahead":                     func(h *exthash.Hash) { set(*h, 7, func(b *bucket.Bucket) { b.Pages = []int{33, 7} }) },
		"no page":                          func(h *exthash.Hash) { set(*h, 7, func(b *bucket.Bucket) { b.Pages = nil }) },
		"Depth less":                       func(h *exthash.Hash) { set(*h, 9, func(b *bucket.Bucket) { b.Depth-- }) },
		"Depth more":                       func(h *exthash.Hash) { set(*h, 9, func(b *bucket.Bucket) { b.Depth++ }) },
		"Depth less, deeper":               func(h *exthash.Hash) { set(*h, 7, func(b *bucket.Bucket) { b.Depth-- }) },
		"Depth greater than Global":        func(h *exthash.Hash) { set(*h, 7, func(b *bucket.Bucket) { b.Depth++ }) },
		"Depth negative":                   func(h *exthash.Hash) { set(*h, 7, func(b *bucket.Bucket) { b.Depth = -1 }) },
		"Depth least":                      func(h *exthash.Hash) { set(*h, 7, func(b *bucket.Bucket) { b.Depth = math.MinInt }) },
		"Depth most":                       func(h *exthash.Hash) { set(*h, 7, func(b *bucket.Bucket) { b.Depth = math.MaxInt }) },
		"more records than room": func(h *exthash.Hash) {
			set(*h, 200, func(b *bucket.Bucket) { b.Recs = append(b.Recs, rec("011", 50)) })
		},
		"more records than two pages have": func(h *exthash.Hash) {
			set(*h, 200, func(b *bucket.Bucket) { b.Pages, b.Recs = []int{200, 201}, recs("011", 0, 11) })
		},
		"a record of another bucket": func(h *exthash.Hash) { set(*h, 7, func(b *bucket.Bucket) { b.Recs = []api.Rec{rec("011", 50)} }) },
		"a ghost of another bucket": func(h *exthash.Hash) {
			set(*h, 9, func(b *bucket.Bucket) { b.Recs[2] = api.Rec{Id: 41, Key: key("1", 41), Ghost: true} })
		},
		"a first record of another bucket": func(h *exthash.Hash) { set(*h, 4, func(b *bucket.Bucket) { b.Recs[0] = rec("11", 11) }) },
	} {
		h := uneven()
		breakIt(&h)
		if h.Sound() {
			t.Errorf("%s: sound", name)
		}
	}
	for _, global := range []int{0, -1, -6, math.MinInt, 64, math.MaxInt} { // 2^Global is not 0
		if (exthash.Hash{Global: global}).Sound() {
			t.Errorf("a hash without entries, whose Global is %d, is sound", global)
		}
	}
}

// 14.5: a bucket of as many entries as it must have, which are not those of one value of its bits.
func TestSoundBits(t *testing.T) {
	h := exthash.Hash{Global: 2, Dir: []int{1, 1, 2, 2}, B: map[int]bucket.Bucket{1: {Depth: 1, Pages: []int{1}}, 2: {Depth: 1, Pages: []int{2}}}}
	if h.Sound() {
		t.Error("buckets told by the second bit are sound")
	}
	h.Dir = []int{1, 2, 1, 2}
	wantSound(t, "buckets told by the first bit", h)
	h.Dir = []int{2, 1, 2, 1}
	wantSound(t, "buckets told by the first bit, the other way", h)
	h.Dir = []int{2, 1, 2, 2}
	if h.Sound() {
		t.Error("an entry that leads to the other bucket is sound")
	}
}

// 14.5: a directory that tells more bits than MaxDepth is not sound, whatever its buckets are.
func TestSoundMaxDepth(t *testing.T) {
	wantSound(t, "Global 6", hashOf(6, on(1, "0"), on(2, "1")))
	for _, h := range []exthash.Hash{hashOf(7, on(1, "0"), on(2, "1")), among(7, "0000000", on(1, "0000000")), hashOf(8, on(1, ""))} {
		if h.Sound() {
			t.Errorf("Global %d is sound", h.Global)
		}
	}
}

// 14.6 and R1: hashes that do not result from the functions lead to no panic.
func TestStrangeHashes(t *testing.T) {
	for _, h := range []exthash.Hash{
		{},
		{Global: -1},
		{Global: 100, Dir: []int{1}},
		{Global: 1, Dir: []int{3, 3}},
		{Dir: []int{1}, B: map[int]bucket.Bucket{1: {}}},
		{Dir: []int{1}, B: map[int]bucket.Bucket{1: {Depth: -3}}},
		{Dir: []int{1}, B: map[int]bucket.Bucket{1: {Depth: math.MinInt, Pages: []int{1}}}},
		{Dir: []int{1}, B: map[int]bucket.Bucket{1: {Depth: math.MaxInt, Pages: []int{1, 2}}}},
		{Dir: []int{1}, B: map[int]bucket.Bucket{1: {Depth: 64, Pages: []int{1}}}},
		{Global: 2, Dir: []int{1, 1}, B: map[int]bucket.Bucket{1: {Depth: 5, Pages: []int{2}, Recs: recs("1", 0, 5)}, 0: {Depth: 5}}},
	} {
		for _, f := range calls() {
			for _, g := range calls() {
				out := g(f(copyOf(h)))
				out.Sound()
				out.All()
				out.Firsts()
				out.At(1)
			}
		}
	}
}

// model is a hash without a directory: its buckets, and how many bits the directory tells.
type model struct {
	global int
	parts  []part
}

// of returns the index of the bucket of a key.
func (m *model) of(k uint64) int {
	end := digits(mix.Mix(k), 6)
	return slices.IndexFunc(m.parts, func(p part) bool { return strings.HasSuffix(end, p.bits) })
}

// find returns the index of the first record with this number; -1: there is none.
func (p part) find(id uint64) int {
	return slices.IndexFunc(p.recs, func(r api.Rec) bool { return r.Id == id })
}

// records returns all records.
func (m *model) records() []api.Rec {
	var l []api.Rec
	for _, p := range m.parts {
		l = append(l, p.recs...)
	}
	return l
}

// live returns the first record with the key that is no ghost.
func (m *model) live(k uint64) (api.Rec, bool) {
	for _, r := range m.parts[m.of(k)].recs {
		if r.Key == k && !r.Ghost {
			return r, true
		}
	}
	return api.Rec{}, false
}

func (m *model) put(r api.Rec) api.Code {
	p := &m.parts[m.of(r.Key)]
	switch {
	case len(p.recs) == 5*len(p.pages):
		return api.ErrFull
	case p.find(r.Id) >= 0:
		return api.ErrTwice
	case len(r.Val) > 15:
		return api.ErrSize
	}
	p.recs = append(slices.Clone(p.recs), r)
	return api.OK
}

func (m *model) drop(k, id uint64) bool {
	p := &m.parts[m.of(k)]
	i := p.find(id)
	if i >= 0 {
		p.recs = slices.Delete(slices.Clone(p.recs), i, i+1)
	}
	return i >= 0
}

func (m *model) mark(k, id uint64, ghost bool) bool {
	p := &m.parts[m.of(k)]
	i := p.find(id)
	if i >= 0 {
		p.recs = slices.Clone(p.recs)
		p.recs[i].Ghost = ghost
	}
	return i >= 0
}

func (m *model) grow(k uint64, page int) (int, api.Code) {
	i := m.of(k)
	p := m.parts[i]
	deep := len(p.bits) == 6
	switch {
	case len(p.recs) < 5*len(p.pages):
		return exthash.Nothing, api.OK
	case !deep && len(p.bits) == m.global:
		m.global++
		return exthash.Doubled, api.OK
	case page < 1 || deep && len(p.pages) == 8:
		return exthash.Nothing, api.ErrFull
	case deep:
		m.parts[i].pages = append(slices.Clone(p.pages), page)
		return exthash.Chained, api.OK
	}
	halves := []part{{bits: "0" + p.bits, pages: p.pages}, {bits: "1" + p.bits, pages: []int{page}}}
	for _, r := range p.recs {
		for j := range halves {
			if strings.HasSuffix(digits(mix.Mix(r.Key), 6), halves[j].bits) {
				halves[j].recs = append(halves[j].recs, r)
			}
		}
	}
	m.parts = append(slices.Delete(m.parts, i, i+1), halves...)
	return exthash.Split, api.OK
}

func (m *model) shrink(k uint64) (int, int) {
	i := m.of(k)
	p := m.parts[i]
	if n := len(p.pages); n > 1 && len(p.recs) <= 5*(n-1) {
		m.parts[i].pages = slices.Clone(p.pages[:n-1])
		return exthash.Unchain, p.pages[n-1]
	}
	if page, ok := m.merge(p.bits); ok {
		return exthash.Merged, page
	}
	if m.global > 0 && !slices.ContainsFunc(m.parts, func(p part) bool { return len(p.bits) == m.global }) {
		m.global--
		return exthash.Halved, 0
	}
	return exthash.Nothing, 0
}

// merge merges the bucket of these bits with its buddy, if that is possible, and returns the page that is left over.
func (m *model) merge(bits string) (int, bool) {
	if bits == "" {
		return 0, false
	}
	at := func(bits string) int {
		return slices.IndexFunc(m.parts, func(p part) bool { return p.bits == bits && len(p.pages) == 1 })
	}
	i, j := at("0"+bits[1:]), at("1"+bits[1:])
	if i < 0 || j < 0 || len(m.parts[i].recs)+len(m.parts[j].recs) > 2 {
		return 0, false
	}
	left := m.parts[j].pages[0]
	m.parts[i] = part{bits: bits[1:], pages: m.parts[i].pages, recs: slices.Concat(m.parts[i].recs, m.parts[j].recs)}
	m.parts = slices.Delete(m.parts, j, j+1)
	return left, true
}

// run is a hash beside its model, with the pages that it does not use.
type run struct {
	t     *testing.T
	next  func(int) int
	h     exthash.Hash
	m     model
	free  []int
	last  uint64 // the Id of the newest record
	seen  map[int]int
	codes map[api.Code]int
	keys  int // how many different endings the hashes of the keys have
}

func newRun(t *testing.T, next func(int) int, keys int) *run {
	first := 1 + next(200)
	free := slices.DeleteFunc(numbered(1, 600), func(n int) bool { return n == first })
	return &run{t: t, next: next, h: exthash.New(first), m: model{parts: []part{on(first, "")}}, free: free, keys: keys, seen: map[int]int{}, codes: map[api.Code]int{}}
}

// anyKey returns a key of one of few endings.
func (x *run) anyKey() uint64 {
	return key(digits(uint64(x.next(x.keys))*37, 8), uint64(x.next(12)))
}

// check holds the hash against the model.
func (x *run) check() {
	x.t.Helper()
	wantHash(x.t, "a random call", x.h, hashOf(x.m.global, x.m.parts...))
}

// grow makes a step, and returns whether there was one.
func (x *run) grow(k uint64) bool {
	x.t.Helper()
	i := x.next(len(x.free))
	page := x.free[i]
	if x.next(8) == 0 {
		page = -x.next(2)
	}
	h, kind, code := x.h.Grow(k, page)
	wantKind, wantCode := x.m.grow(k, page)
	if kind != wantKind || code != wantCode {
		x.t.Fatalf("%v: Grow(%x, %d) = %d, %d, want %d, %d", x.h, k, page, kind, code, wantKind, wantCode)
	}
	if kind == exthash.Split || kind == exthash.Chained {
		x.free = slices.Delete(x.free, i, i+1)
	}
	x.h = h
	x.seen[kind]++
	x.check()
	return kind != exthash.Nothing
}

// shrink makes a step, and returns whether there was one.
func (x *run) shrink(k uint64) bool {
	x.t.Helper()
	h, kind, page := x.h.Shrink(k)
	wantKind, wantPage := x.m.shrink(k)
	if kind != wantKind || page != wantPage {
		x.t.Fatalf("%v: Shrink(%x) = %d, %d, want %d, %d", x.h, k, kind, page, wantKind, wantPage)
	}
	if page > 0 {
		x.free = append(x.free, page)
	}
	x.h = h
	x.seen[kind]++
	x.check()
	return kind != exthash.Nothing
}

// put puts a record, mostly behind steps of growth, and mostly with a new Id.
func (x *run) put() {
	x.t.Helper()
	r := api.Rec{Id: x.last + 1, Key: x.anyKey(), X: uint32(x.next(9)), Val: strings.Repeat("v", x.next(14)+x.next(4)), Ghost: x.next(4) == 0}
	if x.next(10) == 0 {
		r.Id = uint64(x.next(int(x.last) + 1))
	}
	for x.next(10) > 0 && x.grow(r.Key) {
	}
	h, code := x.h.Put(r)
	if want := x.m.put(r); code != want {
		x.t.Fatalf("%v: Put(%v) has code %d, want %d", x.h, r, code, want)
	}
	x.h, x.last = h, max(x.last, r.Id)
	x.codes[code]++
	x.check()
}

// change drops or marks a record, mostly one that is there.
func (x *run) change(drop bool) {
	x.t.Helper()
	k, id := x.anyKey(), uint64(x.next(int(x.last)+1))
	if l := x.m.records(); len(l) > 0 && x.next(10) > 0 {
		r := l[x.next(len(l))]
		k, id = r.Key, r.Id
	}
	ghost := x.next(2) == 0
	h, ok, want := x.h, false, false
	if drop {
		h, ok = x.h.Drop(k, id)
		want = x.m.drop(k, id)
	} else {
		h, ok = x.h.Mark(k, id, ghost)
		want = x.m.mark(k, id, ghost)
	}
	if ok != want {
		x.t.Fatalf("%v: Drop or Mark of %d = %v, want %v", x.h, id, ok, want)
	}
	x.h = h
	x.check()
	for x.next(4) > 0 && x.shrink(k) {
	}
}

// find looks for every record, and for keys and numbers that are not there.
func (x *run) find() {
	x.t.Helper()
	wantSound(x.t, "a random hash", x.h)
	wantAll(x.t, x.h)
	if len(x.h.All()) != len(x.m.records()) {
		x.t.Fatalf("All has %d records, want %d", len(x.h.All()), len(x.m.records()))
	}
	keys := []uint64{0, x.anyKey(), x.anyKey()}
	for _, p := range x.m.parts {
		for i, r := range p.recs {
			keys = append(keys, r.Key)
			got, ok := x.h.Get(r.Key, r.Id)
			if first := p.find(r.Id) == i; ok != first || first && got != r {
				x.t.Fatalf("%v: Get(%x, %d) = %v, %v, want %v", x.h, r.Key, r.Id, got, ok, r)
			}
			if got, ok := x.h.Get(r.Key, x.last+1); ok || got != (api.Rec{}) {
				x.t.Fatalf("%v: Get of a new Id = %v", x.h, got)
			}
		}
	}
	for _, k := range keys {
		got, ok := x.h.Find(k)
		if want, wantOk := x.m.live(k); got != want || ok != wantOk {
			x.t.Fatalf("%v: Find(%x) = %v, %v, want %v, %v", x.h, k, got, ok, want, wantOk)
		}
	}
}

// room calls Grow with pages until there is room; a bucket of the largest depth and length alone has none.
func (x *run) room(k uint64) {
	x.t.Helper()
	h, pages := x.h, slices.Clone(x.free)
	for range 14 {
		b := h.At(k)
		if b.Room() > 0 {
			return
		}
		next, kind, code := h.Grow(k, pages[0])
		if code != api.OK {
			if code != api.ErrFull || b.Depth != bucket.MaxDepth || len(b.Pages) != bucket.MaxChain {
				x.t.Fatalf("%v: Grow(%x) has code %d", h, k, code)
			}
			return
		}
		if kind == exthash.Nothing {
			x.t.Fatalf("%v: Grow(%x) does nothing for a full bucket", h, k)
		}
		if kind != exthash.Doubled {
			pages = pages[1:]
		}
		h = next
		wantSound(x.t, "growth", h)
	}
	if h.At(k).Room() <= 0 {
		x.t.Fatalf("%v: no room behind fourteen steps", x.h)
	}
}

// 14.1 to 14.6, P6: random calls, held against the model; all earlier hashes stay as they were.
func TestRandomCalls(t *testing.T) {
	next := noise(14)
	seen, codes := map[int]int{}, map[api.Code]int{}
	for i := range 60 {
		x := newRun(t, next, []int{1, 2, 3, 8, 24, 64}[i%6])
		var earlier, copies []exthash.Hash
		for step := range 600 {
			filling := step/150%2 == 0
			switch n := next(10); {
			case n == 0:
				x.grow(x.anyKey())
			case n == 1:
				x.shrink(x.anyKey())
			case n == 2:
				x.change(false)
			case (n < 8) == filling:
				x.put()
			default:
				x.change(true)
			}
			if step%10 == 0 {
				x.find()
				x.room(x.anyKey())
				earlier, copies = append(earlier, x.h), append(copies, copyOf(x.h))
			}
		}
		for i := range earlier {
			wantHash(t, "an earlier hash", earlier[i], copies[i])
		}
		for kind, n := range x.seen {
			seen[kind] += n
		}
		for code, n := range x.codes {
			codes[code] += n
		}
	}
	for kind := range 7 {
		if seen[kind] < 20 {
			t.Errorf("the random calls had the step %d only %d times", kind, seen[kind])
		}
	}
	for _, code := range []api.Code{api.OK, api.ErrFull, api.ErrTwice, api.ErrSize} {
		if codes[code] < 20 {
			t.Errorf("the random calls had the code %d only %d times", code, codes[code])
		}
	}
}

// grown returns the hash in which there is room for the key, the kinds of the steps, and the next page.
func grown(t *testing.T, h exthash.Hash, k uint64, page int) (exthash.Hash, []int, int) {
	t.Helper()
	var kinds []int
	for {
		next, kind, code := h.Grow(k, page)
		if code != api.OK {
			t.Fatalf("Grow has code %d behind %v", code, kinds)
		}
		if kind == exthash.Nothing {
			return next, kinds, page
		}
		if kind != exthash.Doubled {
			page++
		}
		kinds = append(kinds, kind)
		h = next
	}
}

// 14.6: records that no bit tells apart take the most steps, and then as many pages as a chain can have.
func TestGrowToTheEnd(t *testing.T) {
	for _, bits := range []string{"000000", "111111", "011010"} {
		h, page := exthash.New(1), 2
		for i := range uint64(40) {
			r := rec(bits, i)
			next, kinds, nextPage := grown(t, h, r.Key, page)
			var want []int
			switch {
			case i == 5:
				want = []int{1, 2, 1, 2, 1, 2, 1, 2, 1, 2, 1, 2, 3}
			case i > 5 && i%5 == 0:
				want = []int{3}
			}
			if !slices.Equal(kinds, want) {
				t.Fatalf("ahead of record %d, the steps are %v, want %v", i, kinds, want)
			}
			var code api.Code
			if h, code = next.Put(r); code != api.OK {
				t.Fatalf("Put of record %d: code %d", i, code)
			}
			page = nextPage
			wantSound(t, "Put", h)
		}
		if _, kind, code := h.Grow(key(bits, 0), page); kind != exthash.Nothing || code != api.ErrFull {
			t.Errorf("Grow at the end = %d, %d", kind, code)
		}
		if b := h.At(key(bits, 0)); b.Depth != 6 || len(b.Pages) != 8 || h.Global != 6 {
			t.Errorf("the bucket at the end is %v", b)
		}
		for i := range uint64(40) {
			if r, ok := h.Get(key(bits, i), i); !ok || r != rec(bits, i) {
				t.Errorf("record %d is %v", i, r)
			}
		}
		other := string('0'+'1'-bits[0]) + bits[1:]
		if _, kind, code := h.Grow(key(other, 0), page); kind != exthash.Nothing || code != api.OK {
			t.Errorf("Grow of the buddy at the end = %d, %d", kind, code)
		}
	}
}

// 14.6: every record is found behind each step of growth and of shrinking, until nothing is left.
func TestStoredIsFound(t *testing.T) {
	h, page := exthash.New(1), 2
	var stored []api.Rec
	check := func() {
		t.Helper()
		wantSound(t, "a step", h)
		for _, r := range stored {
			if got, ok := h.Find(r.Key); !ok || got != r {
				t.Fatalf("Find(%x) = %v, %v, want %v", r.Key, got, ok, r)
			}
			if got, ok := h.Get(r.Key, r.Id); !ok || got != r {
				t.Fatalf("Get(%x, %d) = %v, %v, want %v", r.Key, r.Id, got, ok, r)
			}
		}
		if got := h.All(); !slices.Equal(got, stored) {
			t.Fatalf("All = %v, want %v", got, stored)
		}
	}
	for i := range uint64(120) {
		r := api.Rec{Id: i, Key: i * i, Val: strconv.Itoa(int(i))}
		h, _, page = grown(t, h, r.Key, page)
		h, _ = h.Put(r)
		stored = append(stored, r)
		check()
	}
	used := map[int]int{}
	for len(stored) > 0 {
		r := stored[len(stored)/2]
		stored = slices.Delete(stored, len(stored)/2, len(stored)/2+1)
		h, _ = h.Drop(r.Key, r.Id)
		for kind := -1; kind != exthash.Nothing; check() {
			var left int
			h, kind, left = h.Shrink(r.Key)
			if left > 0 {
				used[left]++
			}
		}
	}
	for h.Global > 0 { // buckets that were emptied while their buddies were not
		before := h
		for _, first := range h.Firsts() {
			for i := range uint64(64) {
				if k := key(digits(i, 6), 0); h.Where(k) == first {
					h, _, _ = h.Shrink(k)
				}
			}
		}
		check()
		if same(before, h) {
			t.Fatalf("the hash does not shrink: %v", h)
		}
	}
	if len(h.B) != 1 || len(h.Dir) != 1 {
		t.Errorf("without records the hash is %v", h)
	}
	for left, n := range used {
		if n > 1 || left == h.Dir[0] {
			t.Errorf("page %d was left over %d times, the bucket is on page %d", left, n, h.Dir[0])
		}
	}
}

// Example 1: for a sixth record the directory is doubled and the bucket split until there is room.
func TestExample(t *testing.T) {
	l := []api.Rec{rec("00", 1), rec("10", 2), rec("00", 3), rec("10", 4), rec("00", 5)}
	sixth := rec("10", 6)
	h := exthash.New(1)
	for _, r := range l {
		var code api.Code
		if h, code = h.Put(r); code != api.OK {
			t.Fatal(code)
		}
	}
	if _, code := h.Put(sixth); code != api.ErrFull {
		t.Errorf("the sixth record has code %d", code)
	}
	h, kinds, page := grown(t, h, sixth.Key, 2)
	if !slices.Equal(kinds, []int{exthash.Doubled, exthash.Split, exthash.Doubled, exthash.Split}) || page != 4 {
		t.Fatalf("the steps are %v, the next page is %d", kinds, page)
	}
	h, code := h.Put(sixth)
	if code != api.OK {
		t.Fatalf("the sixth record has code %d", code)
	}
	wantHash(t, "the example", h, hashOf(2, on(1, "00", l[0], l[2], l[4]), on(3, "10", l[1], l[3], sixth), on(2, "1")))
}
