package lock_test

import (
	"fmt"
	"math"
	"slices"
	"strings"
	"testing"

	"counterpane/api"
	"counterpane/lock"
	"counterpane/mode"
)

// The resources of most tests, in the order of Compare.
var (
	a = api.Res{Kind: api.ResStore, N: 0}
	b = api.Res{Kind: api.ResTile, N: 3}
	c = api.Res{Kind: api.ResTile, N: 4}
	d = api.Res{Kind: api.ResKey, N: 0}
	e = api.Res{Kind: api.ResKey, N: math.MaxUint64}
)

// named returns the resources a to e.
func named() []api.Res {
	return []api.Res{a, b, c, d, e}
}

// nameOf returns what a test calls a resource.
func nameOf(r api.Res) string {
	if i := slices.Index(named(), r); i >= 0 {
		return "abcde"[i : i+1]
	}
	return fmt.Sprintf("%d/%d", r.Kind, r.N)
}

// claims returns claims as text: each transaction with its mode.
func claims(l []lock.Claim) string {
	var words []string
	for _, x := range l {
		words = append(words, fmt.Sprintf("%d%s", x.Txn, mode.Name(x.Mode)))
	}
	return strings.Join(words, " ")
}

// show returns the table as text: "a: 1s 2is | 3x" if 3 waits for a, which 1 and 2 hold; the resources are parted by semicolons.
func show(x *lock.Table) string {
	var parts []string
	for _, r := range x.Things() {
		text := nameOf(r) + ": " + claims(x.Holders(r))
		if q := x.Queue(r); len(q) > 0 {
			text += " | " + claims(q)
		}
		parts = append(parts, text)
	}
	return strings.Join(parts, "; ")
}

// wantTable fails the test if the table is not the one that show would return, or contradicts itself.
func wantTable(t *testing.T, x *lock.Table, want string) {
	t.Helper()
	if got := show(x); got != want {
		t.Fatalf("the table is %q, want %q", got, want)
	}
	wantAgreed(t, x)
}

// wantAgreed fails the test if Held and Waits do not tell the same as Holders and Queue, or 11.5 does not hold.
func wantAgreed(t *testing.T, x *lock.Table) {
	t.Helper()
	waiting := map[uint64]api.Res{}
	for _, r := range x.Things() {
		for i, h := range x.Holders(r) {
			if got := x.Held(h.Txn, r); got != h.Mode || got == mode.None {
				t.Fatalf("%q: Held(%d, %s) = %d, but Holders tells %d", show(x), h.Txn, nameOf(r), got, h.Mode)
			}
			for _, g := range x.Holders(r)[:i] {
				if g.Txn == h.Txn || !goTogether(g.Mode, h.Mode) {
					t.Fatalf("%q: %d and %d both hold %s", show(x), g.Txn, h.Txn, nameOf(r))
				}
			}
		}
		for _, w := range x.Queue(r) {
			if got, ok := x.Waits(w.Txn); !ok || got != r {
				t.Fatalf("%q: Waits(%d) = %v, %v", show(x), w.Txn, got, ok)
			}
			if _, ok := waiting[w.Txn]; ok {
				t.Fatalf("%q: %d waits twice", show(x), w.Txn)
			}
			waiting[w.Txn] = r
			if l := x.Blocks(w.Txn); len(l) == 0 || slices.Contains(l, w.Txn) {
				t.Fatalf("%q: Blocks(%d) = %v", show(x), w.Txn, l)
			}
		}
	}
}

// goTogether reports whether two modes are compatible, by a table written out.
func goTogether(m, n int) bool {
	return []string{
		"yyyyyy", // None
		"yyyyyn", // IS
		"yyynnn", // IX
		"yynynn", // S
		"yynnnn", // SIX
		"ynnnnn", // X
	}[m][n] == 'y'
}

// joinOf returns the join of two modes, by a table written out.
func joinOf(m, n int) int {
	return [][]int{
		{0, 1, 2, 3, 4, 5}, // None
		{1, 1, 2, 3, 4, 5}, // IS
		{2, 2, 2, 4, 4, 5}, // IX
		{3, 3, 4, 3, 4, 5}, // S
		{4, 4, 4, 4, 4, 5}, // SIX
		{5, 5, 5, 5, 5, 5}, // X
	}[m][n]
}

// wantLock locks, and fails the test if the code is another one.
func wantLock(t *testing.T, x *lock.Table, txn uint64, r api.Res, m int, want api.Code) {
	t.Helper()
	if got := x.Lock(txn, r, m); got != want {
		t.Fatalf("Lock(%d, %s, %d) = %d, want %d; the table is %q", txn, nameOf(r), m, got, want, show(x))
	}
}

// holds has txn hold r at once.
func holds(t *testing.T, x *lock.Table, txn uint64, r api.Res, m int) {
	t.Helper()
	wantLock(t, x, txn, r, m, api.OK)
}

// waits has txn wait for r.
func waits(t *testing.T, x *lock.Table, txn uint64, r api.Res, m int) {
	t.Helper()
	wantLock(t, x, txn, r, m, api.ErrWait)
}

// wantList fails the test if a list of transactions is another one.
func wantList(t *testing.T, what string, got []uint64, want ...uint64) {
	t.Helper()
	if !slices.Equal(got, want) {
		t.Fatalf("%s = %v, want %v", what, got, want)
	}
}

// wantRelease releases txn, and fails the test if others go on than these.
func wantRelease(t *testing.T, x *lock.Table, txn uint64, want ...uint64) {
	t.Helper()
	wantList(t, fmt.Sprintf("Release(%d)", txn), x.Release(txn), want...)
}

// wantCancel cancels the request of txn, and fails the test if others go on than these.
func wantCancel(t *testing.T, x *lock.Table, txn uint64, want ...uint64) {
	t.Helper()
	wantList(t, fmt.Sprintf("Cancel(%d)", txn), x.Cancel(txn), want...)
}

// wantBlocks fails the test if txn waits for others than these.
func wantBlocks(t *testing.T, x *lock.Table, txn uint64, want ...uint64) {
	t.Helper()
	wantList(t, fmt.Sprintf("Blocks(%d)", txn), x.Blocks(txn), want...)
}

// wantNothing fails the test if the table knows anything of the transaction or the resource.
func wantNothing(t *testing.T, x *lock.Table, txn uint64, r api.Res) {
	t.Helper()
	if got := x.Held(txn, r); got != mode.None {
		t.Errorf("Held(%d, %v) = %d", txn, r, got)
	}
	if got, ok := x.Waits(txn); ok || got != (api.Res{}) {
		t.Errorf("Waits(%d) = %v, %v", txn, got, ok)
	}
	if l := x.Holders(r); len(l) != 0 {
		t.Errorf("Holders(%v) = %v", r, l)
	}
	if l := x.Queue(r); len(l) != 0 {
		t.Errorf("Queue(%v) = %v", r, l)
	}
	if l := x.Blocks(txn); l != nil {
		t.Errorf("Blocks(%d) = %v", txn, l)
	}
}

// strangers returns transactions and resources at the ends of their ranges.
func strangers() ([]uint64, []api.Res) {
	var l []api.Res
	for _, kind := range []int{math.MinInt, -1, api.ResStore, api.ResTile, api.ResKey, 3, math.MaxInt} {
		for _, n := range []uint64{0, 1, 63, math.MaxInt64, math.MaxInt64 + 1, math.MaxUint64} {
			l = append(l, api.Res{Kind: kind, N: n})
		}
	}
	return []uint64{0, 1, math.MaxInt64, math.MaxUint64}, l
}

// 11.1: in an empty table nobody holds anything and nobody waits, and nobody goes on.
func TestEmpty(t *testing.T) {
	x := lock.New()
	txns, things := strangers()
	for _, txn := range txns {
		for _, r := range things {
			wantNothing(t, x, txn, r)
			wantRelease(t, x, txn)
			wantCancel(t, x, txn)
			wantNothing(t, x, txn, r)
		}
	}
	if l := x.Things(); len(l) != 0 {
		t.Errorf("Things() = %v", l)
	}
}

// 11.1: what the table does not know it does not know either while it has locks, and asking changes nothing.
func TestUnknown(t *testing.T) {
	x := lock.New()
	holds(t, x, 7, b, mode.X)
	waits(t, x, 8, b, mode.S)
	txns, things := strangers()
	for _, txn := range txns {
		for _, r := range things {
			wantNothing(t, x, txn, r)
		}
		if got := x.Held(txn, b); got != mode.None {
			t.Errorf("Held(%d, b) = %d", txn, got)
		}
		wantRelease(t, x, txn)
		wantCancel(t, x, txn)
	}
	wantTable(t, x, "b: 7x | 8s")
	wantCancel(t, x, 7) // it does not wait
	wantTable(t, x, "b: 7x | 8s")
}

// 11.1: any number is a transaction, and any kind with any number a resource.
func TestAnyNumbers(t *testing.T) {
	txns, things := strangers()
	for _, txn := range txns {
		x := lock.New()
		for _, r := range things {
			holds(t, x, txn, r, mode.X)
			waits(t, x, 77, r, mode.S)
			wantBlocks(t, x, 77, txn)
			wantCancel(t, x, 77)
		}
		for _, r := range things {
			if got := x.Held(txn, r); got != mode.X {
				t.Errorf("Held(%d, %v) = %d", txn, r, got)
			}
		}
		if got := x.Things(); !slices.Equal(got, things) {
			t.Errorf("Things() = %v, want %v", got, things)
		}
		wantRelease(t, x, txn)
		wantTable(t, x, "")
	}
}

// 11.1: Compare orders by Kind, then by N; the resources of strangers are written down in this order.
func TestCompare(t *testing.T) {
	_, things := strangers()
	for i, r := range things {
		for j, s := range things {
			got := lock.Compare(r, s)
			if (got < 0) != (i < j) || (got > 0) != (i > j) {
				t.Errorf("Compare(%v, %v) = %d", r, s, got)
			}
		}
	}
}

// 11.1: resources that differ in Kind alone, in N alone, and in both, one time against each other.
func TestCompareByHand(t *testing.T) {
	for _, x := range []struct {
		r, s api.Res
		want int
	}{
		{api.Res{Kind: 1, N: 5}, api.Res{Kind: 1, N: 5}, 0},
		{api.Res{Kind: 1, N: 5}, api.Res{Kind: 2, N: 5}, -1},
		{api.Res{Kind: 1, N: 5}, api.Res{Kind: 1, N: 6}, -1},
		{api.Res{Kind: 1, N: 5}, api.Res{Kind: 2, N: 4}, -1},
		{api.Res{Kind: 1, N: 0}, api.Res{Kind: 1, N: math.MaxUint64}, -1},
		{api.Res{Kind: 0, N: math.MaxUint64}, api.Res{Kind: 1, N: 0}, -1},
		{api.Res{Kind: math.MinInt, N: 1}, api.Res{Kind: math.MaxInt, N: 0}, -1},
	} {
		if got := lock.Compare(x.r, x.s); sign(got) != x.want {
			t.Errorf("Compare(%v, %v) = %d, want the sign of %d", x.r, x.s, got, x.want)
		}
		if got := lock.Compare(x.s, x.r); sign(got) != -x.want {
			t.Errorf("Compare(%v, %v) = %d, want the sign of %d", x.s, x.r, got, -x.want)
		}
	}
}

// sign returns -1, 0 or 1.
func sign(n int) int {
	return max(-1, min(1, n))
}

// 11.1: Things is in the order of Compare, whatever the order of the locks.
func TestThingsOrder(t *testing.T) {
	x := lock.New()
	for i, r := range []api.Res{d, a, e, c, b} {
		holds(t, x, uint64(9-i), r, mode.S)
	}
	wantTable(t, x, "a: 8s; b: 5s; c: 6s; d: 9s; e: 7s")
}

// 11.1: a resource that is waited for is listed once, and one that is neither held nor waited for is not listed.
func TestThingsForgets(t *testing.T) {
	x := lock.New()
	holds(t, x, 1, a, mode.IX)
	holds(t, x, 1, b, mode.X)
	holds(t, x, 1, c, mode.S)
	waits(t, x, 2, b, mode.S)
	wantTable(t, x, "a: 1ix; b: 1x | 2s; c: 1s")
	wantRelease(t, x, 1, 2)
	wantTable(t, x, "b: 2s")
	wantRelease(t, x, 2)
	wantTable(t, x, "")
	for _, r := range named() {
		wantNothing(t, x, 1, r)
		wantNothing(t, x, 2, r)
	}
}

// 11.1: the order of Holders is that of the first acquisition: a conversion keeps the place, also one that had to wait.
func TestHoldersOrder(t *testing.T) {
	x := lock.New()
	holds(t, x, 5, a, mode.IS)
	holds(t, x, 3, a, mode.IS)
	holds(t, x, 4, a, mode.IX)
	wantTable(t, x, "a: 5is 3is 4ix")
	holds(t, x, 3, a, mode.IX)
	holds(t, x, 5, a, mode.IX)
	wantTable(t, x, "a: 5ix 3ix 4ix")
	waits(t, x, 3, a, mode.S)
	wantTable(t, x, "a: 5ix 3ix 4ix | 3six")
	wantRelease(t, x, 5)
	wantTable(t, x, "a: 3ix 4ix | 3six")
	holds(t, x, 5, b, mode.S)
	wantRelease(t, x, 4, 3)
	wantTable(t, x, "a: 3six; b: 5s")
	holds(t, x, 9, a, mode.IS)
	holds(t, x, 4, a, mode.IS)
	wantRelease(t, x, 3)
	wantTable(t, x, "a: 9is 4is; b: 5s")
}

// 11.1: one who released a resource and acquires it again comes after the others.
func TestHoldersOrderAgain(t *testing.T) {
	x := lock.New()
	holds(t, x, 1, a, mode.S)
	holds(t, x, 2, a, mode.S)
	wantRelease(t, x, 1)
	holds(t, x, 1, a, mode.S)
	wantTable(t, x, "a: 2s 1s")
}

// 11.2: what is not in the range from IS to X is rejected, whoever asks for whatever, and nothing changes.
func TestLockMode(t *testing.T) {
	x := lock.New()
	numbers := []int{mode.None, mode.X + 1, -1, -5, math.MinInt, math.MaxInt}
	for m := mode.None; m <= mode.X; m++ {
		numbers = append(numbers, 8+m, -8+m, 1<<32+m, math.MinInt+m, math.MaxInt-m)
	}
	for _, m := range numbers {
		wantLock(t, x, 1, a, m, api.ErrMode)
	}
	wantTable(t, x, "")
	holds(t, x, 1, a, mode.S)
	waits(t, x, 2, a, mode.X)
	for _, m := range numbers {
		for txn := range uint64(4) {
			wantLock(t, x, txn, a, m, api.ErrMode) // 2 waits: ErrMode is mentioned first
			wantLock(t, x, txn, b, m, api.ErrMode)
		}
	}
	wantTable(t, x, "a: 1s | 2x")
}

// 11.2: one who waits gets nothing, not even what is held already or what nobody holds, and nothing changes.
func TestLockWaiting(t *testing.T) {
	x := lock.New()
	holds(t, x, 1, a, mode.S)
	holds(t, x, 2, a, mode.IS)
	holds(t, x, 2, b, mode.X)
	waits(t, x, 2, a, mode.X)
	waits(t, x, 3, b, mode.S)
	for m := mode.IS; m <= mode.X; m++ {
		for _, r := range named() {
			wantLock(t, x, 2, r, m, api.ErrState)
			wantLock(t, x, 3, r, m, api.ErrState)
		}
	}
	wantTable(t, x, "a: 1s 2is | 2x; b: 2x | 3s")
	if r, ok := x.Waits(2); !ok || r != a {
		t.Errorf("Waits(2) = %v, %v", r, ok)
	}
	if r, ok := x.Waits(3); !ok || r != b {
		t.Errorf("Waits(3) = %v, %v", r, ok)
	}
}

// 11.2: one who stopped waiting may lock again, whether the request was granted, cancelled or released.
func TestLockAfterWaiting(t *testing.T) {
	x := lock.New()
	holds(t, x, 1, a, mode.X)
	waits(t, x, 2, a, mode.X)
	wantRelease(t, x, 1, 2)
	holds(t, x, 2, b, mode.X)
	waits(t, x, 1, b, mode.S)
	wantCancel(t, x, 1)
	holds(t, x, 1, c, mode.S)
	waits(t, x, 3, c, mode.X)
	wantRelease(t, x, 3)
	holds(t, x, 3, d, mode.S)
	wantTable(t, x, "a: 2x; b: 2x; c: 1s; d: 3s")
}

// 11.2: the first one to ask for a resource holds it in each mode, and a second one by the compatibility of the modes.
func TestLockPairs(t *testing.T) {
	for m := mode.IS; m <= mode.X; m++ {
		for n := mode.IS; n <= mode.X; n++ {
			x := lock.New()
			holds(t, x, 1, a, m)
			if goTogether(m, n) {
				holds(t, x, 2, a, n)
				wantTable(t, x, fmt.Sprintf("a: 1%s 2%s", mode.Name(m), mode.Name(n)))
				continue
			}
			waits(t, x, 2, a, n)
			wantTable(t, x, fmt.Sprintf("a: 1%s | 2%s", mode.Name(m), mode.Name(n)))
			wantBlocks(t, x, 2, 1)
			holds(t, x, 2+1, b, n) // another resource does not matter
		}
	}
}

// 11.2: a conversion of the only holder is to the join, at once; a mode that is covered already changes nothing.
func TestConversionAlone(t *testing.T) {
	for m := mode.IS; m <= mode.X; m++ {
		for n := mode.IS; n <= mode.X; n++ {
			x := lock.New()
			holds(t, x, 1, a, m)
			holds(t, x, 1, a, n)
			wantTable(t, x, "a: 1"+mode.Name(joinOf(m, n)))
			wantRelease(t, x, 1)
			wantTable(t, x, "")
		}
	}
}

// 11.2: a conversion beside another holder is granted if the join, not the mode asked for, is compatible.
func TestConversionBeside(t *testing.T) {
	for other := mode.IS; other <= mode.X; other++ {
		for m := mode.IS; m <= mode.X; m++ {
			for n := mode.IS; n <= mode.X; n++ {
				if !goTogether(other, m) {
					continue
				}
				x := lock.New()
				holds(t, x, 1, a, other)
				holds(t, x, 2, a, m)
				join := joinOf(m, n)
				if join == m || goTogether(other, join) {
					holds(t, x, 2, a, n)
					wantTable(t, x, fmt.Sprintf("a: 1%s 2%s", mode.Name(other), mode.Name(join)))
					continue
				}
				waits(t, x, 2, a, n)
				wantTable(t, x, fmt.Sprintf("a: 1%s 2%s | 2%s", mode.Name(other), mode.Name(m), mode.Name(join)))
				wantBlocks(t, x, 2, 1)
				wantRelease(t, x, 1, 2)
				wantTable(t, x, "a: 2"+mode.Name(join))
			}
		}
	}
}

// 11.2: the join decides: IX goes together with IX, but S with IX, which is SIX, does not.
func TestConversionByJoin(t *testing.T) {
	x := lock.New()
	holds(t, x, 1, a, mode.IS)
	holds(t, x, 2, a, mode.S)
	waits(t, x, 1, a, mode.IX)
	wantTable(t, x, "a: 1is 2s | 1ix")
	holds(t, x, 3, b, mode.IX)
	holds(t, x, 4, b, mode.IX)
	waits(t, x, 3, b, mode.S)
	wantTable(t, x, "a: 1is 2s | 1ix; b: 3ix 4ix | 3six")
}

// 11.2: a mode that is held or covered is granted while others wait, and changes nothing.
func TestCoveredWhileOthersWait(t *testing.T) {
	x := lock.New()
	holds(t, x, 1, a, mode.IS)
	holds(t, x, 2, a, mode.SIX)
	waits(t, x, 1, a, mode.IX)
	waits(t, x, 3, a, mode.X)
	for _, m := range []int{mode.IS, mode.IX, mode.S, mode.SIX} {
		holds(t, x, 2, a, m)
		wantTable(t, x, "a: 1is 2six | 1ix 3x")
	}
}

// 11.2: a conversion that is compatible is granted while others wait, holders or not.
func TestConversionWhileOthersWait(t *testing.T) {
	x := lock.New()
	holds(t, x, 1, a, mode.IX)
	holds(t, x, 2, a, mode.IS)
	holds(t, x, 3, a, mode.IS)
	waits(t, x, 4, a, mode.S)
	waits(t, x, 3, a, mode.S)
	wantTable(t, x, "a: 1ix 2is 3is | 3s 4s")
	holds(t, x, 2, a, mode.IX)
	wantTable(t, x, "a: 1ix 2ix 3is | 3s 4s")
	wantBlocks(t, x, 3, 1, 2)
	wantBlocks(t, x, 4, 1, 2, 3)
}

// 11.2: a new request waits behind waiting ones, even if all holders are compatible with it.
func TestNewRequestWaits(t *testing.T) {
	x := lock.New()
	holds(t, x, 1, a, mode.IS)
	waits(t, x, 2, a, mode.X)
	for i, m := range []int{mode.IS, mode.IX, mode.S, mode.SIX, mode.X} {
		waits(t, x, uint64(3+i), a, m)
	}
	wantTable(t, x, "a: 1is | 2x 3is 4ix 5s 6six 7x")
	wantBlocks(t, x, 3, 2)
	wantBlocks(t, x, 4, 2, 3)
	wantBlocks(t, x, 7, 1, 2, 3, 4, 5, 6)
}

// 11.2: a new request also waits behind a conversion.
func TestNewRequestWaitsBehindConversion(t *testing.T) {
	x := lock.New()
	holds(t, x, 1, a, mode.IS)
	holds(t, x, 2, a, mode.IS)
	waits(t, x, 1, a, mode.X)
	waits(t, x, 3, a, mode.IS)
	wantTable(t, x, "a: 1is 2is | 1x 3is")
	wantBlocks(t, x, 1, 2)
	wantBlocks(t, x, 3, 1)
}

// 11.2: conversions are queued after the waiting holders and before all others, in the order in which they come.
func TestConversionsQueue(t *testing.T) {
	x := lock.New()
	for txn := uint64(1); txn <= 4; txn++ {
		holds(t, x, txn, a, mode.S)
	}
	waits(t, x, 8, a, mode.IX)
	waits(t, x, 7, a, mode.S)
	waits(t, x, 3, a, mode.X)
	wantTable(t, x, "a: 1s 2s 3s 4s | 3x 8ix 7s")
	waits(t, x, 1, a, mode.IX)
	wantTable(t, x, "a: 1s 2s 3s 4s | 3x 1six 8ix 7s")
	waits(t, x, 6, a, mode.X)
	waits(t, x, 4, a, mode.SIX)
	wantTable(t, x, "a: 1s 2s 3s 4s | 3x 1six 4six 8ix 7s 6x")
	waits(t, x, 2, a, mode.X)
	wantTable(t, x, "a: 1s 2s 3s 4s | 3x 1six 4six 2x 8ix 7s 6x")
}

// 11.2: without others that wait, a conversion is the first of the queue; with one that holds something else, too.
func TestConversionOfHolderOfOther(t *testing.T) {
	x := lock.New()
	holds(t, x, 1, a, mode.S)
	holds(t, x, 2, a, mode.S)
	holds(t, x, 3, b, mode.X)
	waits(t, x, 3, a, mode.X) // it holds b, but not a
	waits(t, x, 2, a, mode.X)
	wantTable(t, x, "a: 1s 2s | 2x 3x; b: 3x")
}

// 11.3: the locks of all resources are released, and those who wait are granted in the order of Compare.
func TestReleaseOrder(t *testing.T) {
	x := lock.New()
	for _, r := range []api.Res{e, b, d, a, c} {
		holds(t, x, 1, r, mode.X)
	}
	waits(t, x, 2, d, mode.S)
	waits(t, x, 9, c, mode.S)
	waits(t, x, 3, a, mode.X)
	waits(t, x, 4, e, mode.S)
	waits(t, x, 5, b, mode.IS)
	waits(t, x, 6, d, mode.S)
	waits(t, x, 7, b, mode.IX)
	waits(t, x, 8, a, mode.S)
	wantTable(t, x, "a: 1x | 3x 8s; b: 1x | 5is 7ix; c: 1x | 9s; d: 1x | 2s 6s; e: 1x | 4s")
	wantRelease(t, x, 1, 3, 5, 7, 9, 2, 6, 4)
	wantTable(t, x, "a: 3x | 8s; b: 5is 7ix; c: 9s; d: 2s 6s; e: 4s")
	wantRelease(t, x, 1)
	wantTable(t, x, "a: 3x | 8s; b: 5is 7ix; c: 9s; d: 2s 6s; e: 4s")
}

// 11.3: granting ends with the first incompatible request, even if later ones are compatible.
func TestGrantingEnds(t *testing.T) {
	x := lock.New()
	holds(t, x, 1, a, mode.X)
	waits(t, x, 2, a, mode.S)
	waits(t, x, 3, a, mode.IS)
	waits(t, x, 4, a, mode.IX)
	waits(t, x, 5, a, mode.S)
	wantRelease(t, x, 1, 2, 3)
	wantTable(t, x, "a: 2s 3is | 4ix 5s")
	wantRelease(t, x, 3)
	wantTable(t, x, "a: 2s | 4ix 5s")
	wantRelease(t, x, 2, 4)
	wantTable(t, x, "a: 4ix | 5s")
}

// 11.3: a request is compatible with those that were granted just before, not with those that held it.
func TestGrantingCountsGranted(t *testing.T) {
	x := lock.New()
	holds(t, x, 1, a, mode.X)
	waits(t, x, 2, a, mode.IX)
	waits(t, x, 3, a, mode.IX)
	waits(t, x, 4, a, mode.SIX)
	waits(t, x, 5, a, mode.IS)
	wantRelease(t, x, 1, 2, 3)
	wantTable(t, x, "a: 2ix 3ix | 4six 5is")
	wantRelease(t, x, 2)
	wantRelease(t, x, 3, 4, 5)
	wantTable(t, x, "a: 4six 5is")
}

// 11.3: a conversion is granted if it is compatible with all other holders; its own lock does not count.
func TestGrantingConversions(t *testing.T) {
	x := lock.New()
	holds(t, x, 1, a, mode.S)
	holds(t, x, 2, a, mode.S)
	holds(t, x, 3, a, mode.IS)
	waits(t, x, 4, a, mode.IX)
	waits(t, x, 2, a, mode.IX)
	waits(t, x, 3, a, mode.IX)
	wantTable(t, x, "a: 1s 2s 3is | 2six 3ix 4ix")
	wantRelease(t, x, 1, 2)
	wantTable(t, x, "a: 2six 3is | 3ix 4ix")
	wantBlocks(t, x, 3, 2)
	wantBlocks(t, x, 4, 2, 3)
	wantRelease(t, x, 2, 3, 4)
	wantTable(t, x, "a: 3ix 4ix")
}

// 11.3: two conversions that hinder each other go on once one of them is released.
func TestReleaseOfConversion(t *testing.T) {
	x := lock.New()
	holds(t, x, 1, a, mode.S)
	holds(t, x, 2, a, mode.S)
	waits(t, x, 1, a, mode.X)
	waits(t, x, 2, a, mode.X)
	waits(t, x, 3, a, mode.IS)
	wantTable(t, x, "a: 1s 2s | 1x 2x 3is")
	wantBlocks(t, x, 1, 2)
	wantBlocks(t, x, 2, 1)
	wantBlocks(t, x, 3, 1, 2)
	wantRelease(t, x, 2, 1)
	wantTable(t, x, "a: 1x | 3is")
	wantNoWait(t, x, 2)
	wantNoWait(t, x, 1)
}

// wantNoWait fails the test if txn waits.
func wantNoWait(t *testing.T, x *lock.Table, txn uint64) {
	t.Helper()
	if r, ok := x.Waits(txn); ok || r != (api.Res{}) {
		t.Errorf("Waits(%d) = %v, %v", txn, r, ok)
	}
	if l := x.Blocks(txn); l != nil {
		t.Errorf("Blocks(%d) = %v", txn, l)
	}
}

// 11.3: releasing one that only waits removes its request, and those behind it go on; it is not among them itself.
func TestReleaseOfWaiting(t *testing.T) {
	x := lock.New()
	holds(t, x, 1, a, mode.S)
	waits(t, x, 2, a, mode.X)
	waits(t, x, 3, a, mode.S)
	waits(t, x, 4, a, mode.IS)
	wantRelease(t, x, 2, 3, 4)
	wantTable(t, x, "a: 1s 3s 4is")
	wantNoWait(t, x, 2)
}

// 11.3: one that holds some resources and waits for another one: all of them are granted in the order of Compare, where the request stands among them.
func TestReleaseOfHolderThatWaits(t *testing.T) {
	for _, wanted := range []api.Res{a, c, e} {
		x := lock.New()
		holds(t, x, 1, d, mode.X)
		holds(t, x, 1, b, mode.X)
		holds(t, x, 9, wanted, mode.IS)
		waits(t, x, 1, wanted, mode.X)
		waits(t, x, 2, wanted, mode.S)
		waits(t, x, 3, wanted, mode.IS)
		waits(t, x, 4, d, mode.S)
		waits(t, x, 5, b, mode.S)
		switch wanted {
		case a:
			wantRelease(t, x, 1, 2, 3, 5, 4)
			wantTable(t, x, "a: 9is 2s 3is; b: 5s; d: 4s")
		case c:
			wantRelease(t, x, 1, 5, 2, 3, 4)
			wantTable(t, x, "b: 5s; c: 9is 2s 3is; d: 4s")
		case e:
			wantRelease(t, x, 1, 5, 4, 2, 3)
			wantTable(t, x, "b: 5s; d: 4s; e: 9is 2s 3is")
		}
		wantNoWait(t, x, 1)
	}
}

// 11.3: what a released transaction does not hold and does not wait for stays as it is.
func TestReleaseLeavesOthers(t *testing.T) {
	x := lock.New()
	holds(t, x, 1, a, mode.IS)
	holds(t, x, 2, a, mode.IS)
	holds(t, x, 2, b, mode.X)
	waits(t, x, 3, b, mode.S)
	holds(t, x, 4, c, mode.S)
	wantRelease(t, x, 1)
	wantTable(t, x, "a: 2is; b: 2x | 3s; c: 4s")
}

// 11.3: Cancel of the first one that waits has those behind it go on, up to the first incompatible one.
func TestCancelFirst(t *testing.T) {
	x := lock.New()
	holds(t, x, 1, a, mode.S)
	waits(t, x, 2, a, mode.X)
	waits(t, x, 3, a, mode.S)
	waits(t, x, 4, a, mode.IS)
	waits(t, x, 5, a, mode.IX)
	waits(t, x, 6, a, mode.S)
	wantCancel(t, x, 2, 3, 4)
	wantTable(t, x, "a: 1s 3s 4is | 5ix 6s")
	wantNoWait(t, x, 2)
	wantCancel(t, x, 2)
	wantTable(t, x, "a: 1s 3s 4is | 5ix 6s")
}

// 11.3: Cancel in the middle or at the end of the queue has nobody go on.
func TestCancelLater(t *testing.T) {
	x := lock.New()
	holds(t, x, 1, a, mode.S)
	waits(t, x, 2, a, mode.X)
	waits(t, x, 3, a, mode.X)
	waits(t, x, 4, a, mode.S)
	waits(t, x, 5, a, mode.X)
	wantCancel(t, x, 3)
	wantTable(t, x, "a: 1s | 2x 4s 5x")
	wantCancel(t, x, 5)
	wantTable(t, x, "a: 1s | 2x 4s")
	wantCancel(t, x, 2, 4)
	wantTable(t, x, "a: 1s 4s")
}

// 11.3: Cancel of a conversion leaves the lock as it was before, and all other locks.
func TestCancelConversion(t *testing.T) {
	x := lock.New()
	holds(t, x, 1, a, mode.IS)
	holds(t, x, 2, a, mode.IX)
	holds(t, x, 1, b, mode.X)
	waits(t, x, 1, a, mode.S)
	waits(t, x, 3, a, mode.IX)
	wantTable(t, x, "a: 1is 2ix | 1s 3ix; b: 1x")
	wantCancel(t, x, 1, 3)
	wantTable(t, x, "a: 1is 2ix 3ix; b: 1x")
	wantNoWait(t, x, 1)
}

// 11.3: Cancel grants only the resource of the request.
func TestCancelOneResource(t *testing.T) {
	x := lock.New()
	holds(t, x, 1, a, mode.S)
	holds(t, x, 1, b, mode.S)
	waits(t, x, 2, a, mode.X)
	waits(t, x, 3, b, mode.X)
	waits(t, x, 4, a, mode.S)
	waits(t, x, 5, b, mode.S)
	wantCancel(t, x, 3, 5)
	wantTable(t, x, "a: 1s | 2x 4s; b: 1s 5s")
}

// 11.4: only incompatible holders count, and all that are ahead in the queue, compatible or not.
func TestBlocks(t *testing.T) {
	x := lock.New()
	holds(t, x, 9, a, mode.IS)
	holds(t, x, 3, a, mode.IX)
	holds(t, x, 6, a, mode.IX)
	waits(t, x, 7, a, mode.S)
	waits(t, x, 2, a, mode.IS)
	waits(t, x, 8, a, mode.X)
	wantBlocks(t, x, 7, 3, 6)
	wantBlocks(t, x, 2, 7)
	wantBlocks(t, x, 8, 2, 3, 6, 7, 9)
	for _, txn := range []uint64{9, 3, 6, 1, 0} {
		wantNoWait(t, x, txn)
	}
}

// 11.4: a holder in an incompatible mode that is also ahead in the queue counts once, and the transaction itself never.
func TestBlocksOnce(t *testing.T) {
	x := lock.New()
	holds(t, x, 5, a, mode.S)
	holds(t, x, 4, a, mode.S)
	holds(t, x, 6, a, mode.S)
	waits(t, x, 6, a, mode.X)
	waits(t, x, 4, a, mode.X)
	waits(t, x, 1, a, mode.X)
	wantBlocks(t, x, 6, 4, 5)
	wantBlocks(t, x, 4, 5, 6)
	wantBlocks(t, x, 1, 4, 5, 6)
}

// 11.4: those behind in the queue do not count, and neither do other resources.
func TestBlocksNotBehind(t *testing.T) {
	x := lock.New()
	holds(t, x, 1, a, mode.X)
	holds(t, x, 2, b, mode.X)
	waits(t, x, 3, a, mode.X)
	waits(t, x, 4, b, mode.X)
	waits(t, x, 5, a, mode.X)
	wantBlocks(t, x, 3, 1)
	wantBlocks(t, x, 4, 2)
	wantBlocks(t, x, 5, 1, 3)
}

// 11.4: the numbers ascend as unsigned ones.
func TestBlocksAscending(t *testing.T) {
	x := lock.New()
	for _, txn := range []uint64{math.MaxUint64, 1, 1 << 63, 0} {
		holds(t, x, txn, a, mode.S)
	}
	waits(t, x, 1<<63+1, a, mode.IX)
	waits(t, x, 7, a, mode.S)
	waits(t, x, 3, a, mode.X)
	wantBlocks(t, x, 3, 0, 1, 7, 1<<63, 1<<63+1, math.MaxUint64)
}

// The chapter's example: 1 holds S, 2 requests X, 3 requests S: 2 and 3 wait. When 1 releases, 2 gets the lock; when 2 releases, 3 does.
func TestExample(t *testing.T) {
	x := lock.New()
	holds(t, x, 1, d, mode.S)
	waits(t, x, 2, d, mode.X)
	waits(t, x, 3, d, mode.S)
	wantTable(t, x, "d: 1s | 2x 3s")
	wantRelease(t, x, 1, 2)
	wantTable(t, x, "d: 2x | 3s")
	wantRelease(t, x, 2, 3)
	wantTable(t, x, "d: 3s")
}

// R3: what is written to a list that was returned, or behind it, changes no table, and what a table does changes no list.
func TestMemory(t *testing.T) {
	x := lock.New()
	holds(t, x, 1, a, mode.IS)
	holds(t, x, 2, a, mode.IS)
	holds(t, x, 3, a, mode.IS)
	holds(t, x, 1, b, mode.X)
	waits(t, x, 4, a, mode.X)
	waits(t, x, 5, a, mode.S)
	waits(t, x, 6, b, mode.S)
	waits(t, x, 7, b, mode.S)
	const want = "a: 1is 2is 3is | 4x 5s; b: 1x | 6s 7s"
	for range 2 {
		for _, l := range [][]lock.Claim{x.Holders(a), x.Queue(a), x.Holders(b), x.Queue(b)} {
			overwrite(l, lock.Claim{Txn: 99, Mode: mode.X})
		}
		overwrite(x.Things(), e)
		overwrite(x.Blocks(4), 99)
		overwrite(x.Blocks(5), 99)
		wantTable(t, x, want)
	}
	holders, queue, things, blocks := x.Holders(a), x.Queue(a), x.Things(), x.Blocks(4)
	freed := x.Release(1)
	wantList(t, "Release(1)", freed, 6, 7)
	cancelled := x.Cancel(4)
	wantList(t, "Cancel(4)", cancelled, 5)
	holds(t, x, 2, a, mode.S)
	wantRelease(t, x, 3)
	if claims(holders) != "1is 2is 3is" || claims(queue) != "4x 5s" || !slices.Equal(things, []api.Res{a, b}) {
		t.Errorf("lists that were returned changed: %v, %v, %v", holders, queue, things)
	}
	wantList(t, "an earlier Blocks(4)", blocks, 1, 2, 3)
	overwrite(freed, 99)
	overwrite(cancelled, 99)
	wantTable(t, x, "a: 2s 5s; b: 6s 7s")
}

// overwrite writes v to all elements of a list and to the memory behind it.
func overwrite[E any](l []E, v E) {
	l = l[:cap(l)]
	for i := range l {
		l[i] = v
	}
}

// P6: two tables know nothing of each other.
func TestTwoTables(t *testing.T) {
	x, y := lock.New(), lock.New()
	holds(t, x, 1, a, mode.X)
	holds(t, y, 2, a, mode.X)
	waits(t, x, 2, a, mode.S)
	holds(t, y, 2, b, mode.S)
	wantTable(t, x, "a: 1x | 2s")
	wantTable(t, y, "a: 2x; b: 2s")
	wantRelease(t, y, 2)
	wantTable(t, x, "a: 1x | 2s")
	wantTable(t, y, "")
}

// Many transactions and resources: one holds a thousand resources, and a thousand wait for one.
func TestMany(t *testing.T) {
	const n = 1000
	x := lock.New()
	var want []uint64
	for i := range uint64(n) {
		r := api.Res{Kind: api.ResKey, N: i * 7919 % n}
		holds(t, x, 1, r, mode.X)
		waits(t, x, 10+r.N, r, mode.S)
	}
	for i := range uint64(n) {
		want = append(want, 10+i)
	}
	wantRelease(t, x, 1, want...)
	wantRelease(t, x, 10)
	first := api.Res{Kind: api.ResKey}
	holds(t, x, 1, first, mode.X)
	for _, txn := range want {
		wantRelease(t, x, txn)
		waits(t, x, txn, first, mode.IS)
	}
	wantBlocks(t, x, want[n-1], append([]uint64{1}, want[:n-1]...)...)
	wantRelease(t, x, 1, want...)
	if l := x.Holders(first); len(l) != n || l[n-1] != (lock.Claim{Txn: want[n-1], Mode: mode.IS}) {
		t.Errorf("%d holders", len(l))
	}
}

// claim is a line of the model: a transaction holds a resource, or waits for it.
type claim struct {
	txn  uint64
	r    api.Res
	mode int
}

// model is a lock table as two lists: held in the order of the first acquisition, queued with the order of each resource.
type model struct {
	held, queued []claim
}

// find returns where a list has a claim of txn on r; -1: nowhere.
func find(l []claim, txn uint64, r api.Res) int {
	return slices.IndexFunc(l, func(x claim) bool { return x.txn == txn && x.r == r })
}

// on returns the claims of a list on r.
func on(l []claim, r api.Res) []lock.Claim {
	var out []lock.Claim
	for _, x := range l {
		if x.r == r {
			out = append(out, lock.Claim{Txn: x.txn, Mode: x.mode})
		}
	}
	return out
}

// mode returns the mode in which txn holds r.
func (m *model) mode(txn uint64, r api.Res) int {
	if i := find(m.held, txn, r); i >= 0 {
		return m.held[i].mode
	}
	return mode.None
}

// request returns the request of a transaction that waits.
func (m *model) request(txn uint64) (claim, bool) {
	for _, x := range m.queued {
		if x.txn == txn {
			return x, true
		}
	}
	return claim{}, false
}

// against returns the other holders that do not go together with a claim.
func (m *model) against(x claim) []uint64 {
	var l []uint64
	for _, h := range m.held {
		if h.r == x.r && h.txn != x.txn && !goTogether(h.mode, x.mode) {
			l = append(l, h.txn)
		}
	}
	return l
}

// acquire makes a claim a held one.
func (m *model) acquire(x claim) {
	if i := find(m.held, x.txn, x.r); i >= 0 {
		m.held[i].mode = x.mode
		return
	}
	m.held = append(m.held, x)
}

// lock is 11.2, sentence by sentence.
func (m *model) lock(txn uint64, r api.Res, n int) api.Code {
	if n < 1 || n > 5 {
		return api.ErrMode
	}
	if _, ok := m.request(txn); ok {
		return api.ErrState
	}
	own := m.mode(txn, r)
	x := claim{txn, r, joinOf(own, n)}
	if x.mode == own {
		return api.OK
	}
	if len(m.against(x)) == 0 && (own != mode.None || len(on(m.queued, r)) == 0) {
		m.acquire(x)
		return api.OK
	}
	if own == mode.None {
		m.queued = append(m.queued, x)
		return api.ErrWait
	}
	var front, back []claim
	for _, q := range m.queued {
		if q.r != r || m.mode(q.txn, r) != mode.None {
			front = append(front, q)
		} else {
			back = append(back, q)
		}
	}
	m.queued = slices.Concat(front, []claim{x}, back)
	return api.ErrWait
}

// grant is the definition of 11.3.
func (m *model) grant(r api.Res) []uint64 {
	var l []uint64
	for {
		i := slices.IndexFunc(m.queued, func(x claim) bool { return x.r == r })
		if i < 0 || len(m.against(m.queued[i])) > 0 {
			return l
		}
		x := m.queued[i]
		m.queued = slices.Concat(m.queued[:i], m.queued[i+1:])
		m.acquire(x)
		l = append(l, x.txn)
	}
}

// release is 11.3.
func (m *model) release(txn uint64) []uint64 {
	own := map[api.Res]int{}
	others := func(l []claim) []claim {
		var out []claim
		for _, x := range l {
			if x.txn == txn {
				own[x.r]++
			} else {
				out = append(out, x)
			}
		}
		return out
	}
	m.held, m.queued = others(m.held), others(m.queued)
	var l []uint64
	for _, r := range named() { // they are in the order of Compare
		if own[r] > 0 {
			l = append(l, m.grant(r)...)
		}
	}
	return l
}

// cancel is 11.3.
func (m *model) cancel(txn uint64) []uint64 {
	x, ok := m.request(txn)
	if !ok {
		return nil
	}
	m.queued = slices.DeleteFunc(slices.Clone(m.queued), func(q claim) bool { return q.txn == txn })
	return m.grant(x.r)
}

// blocks is 11.4.
func (m *model) blocks(txn uint64) []uint64 {
	x, ok := m.request(txn)
	if !ok {
		return nil
	}
	l := m.against(x)
	for _, q := range on(m.queued, x.r) {
		if q.Txn == txn {
			break
		}
		l = append(l, q.Txn)
	}
	slices.Sort(l)
	return slices.Compact(l)
}

// wantModel fails the test if the table does not tell what the model tells.
func wantModel(t *testing.T, x *lock.Table, m *model, txns int) {
	t.Helper()
	var things []api.Res
	for _, r := range named() {
		held, queued := on(m.held, r), on(m.queued, r)
		if len(held)+len(queued) > 0 {
			things = append(things, r)
		}
		if got := x.Holders(r); !slices.Equal(got, held) {
			t.Fatalf("Holders(%s) = %v, want %v", nameOf(r), got, held)
		}
		if got := x.Queue(r); !slices.Equal(got, queued) {
			t.Fatalf("Queue(%s) = %v, want %v", nameOf(r), got, queued)
		}
		for txn := range uint64(txns) {
			if got := x.Held(txn, r); got != m.mode(txn, r) {
				t.Fatalf("Held(%d, %s) = %d, want %d", txn, nameOf(r), got, m.mode(txn, r))
			}
		}
	}
	if got := x.Things(); !slices.Equal(got, things) {
		t.Fatalf("Things() = %v, want %v", got, things)
	}
	for txn := range uint64(txns) {
		want, ok := m.request(txn)
		if got, waits := x.Waits(txn); got != want.r || waits != ok {
			t.Fatalf("Waits(%d) = %v, %v, want %v, %v", txn, got, waits, want.r, ok)
		}
		got := x.Blocks(txn)
		wantList(t, fmt.Sprintf("Blocks(%d)", txn), got, m.blocks(txn)...)
		if !ok && got != nil {
			t.Fatalf("Blocks(%d) of one that does not wait is not nil", txn)
		}
	}
}

// noise returns a function for numbers below a limit that look random and are the same in every run.
func noise(seed uint64) func(limit int) int {
	x := seed*0x9e3779b97f4a7c15 + 1
	return func(limit int) int {
		x ^= x << 13
		x ^= x >> 7
		x ^= x << 17
		return int(x>>33) % limit
	}
}

// step makes the same call, chosen by next, on the table and on the model.
func step(t *testing.T, next func(int) int, x *lock.Table, m *model, txns, things int) {
	t.Helper()
	txn := uint64(next(txns))
	switch next(8) {
	case 0:
		wantRelease(t, x, txn, m.release(txn)...)
	case 1:
		wantCancel(t, x, txn, m.cancel(txn)...)
	default:
		r, n := named()[next(things)], 1+next(5)
		if next(20) == 0 {
			n = 6 * next(2)
		}
		wantLock(t, x, txn, r, n, m.lock(txn, r, n))
	}
}

// 11.1 to 11.5: random calls against the model, and 11.5 after each of them.
func TestByModel(t *testing.T) {
	for seed := range uint64(60) {
		next := noise(seed)
		txns, things := 2+next(6), 1+next(5)
		x, m := lock.New(), &model{}
		for range 400 {
			step(t, next, x, m, txns, things)
			wantModel(t, x, m, txns)
			wantAgreed(t, x)
		}
		for txn := range uint64(txns) {
			wantRelease(t, x, txn, m.release(txn)...)
			wantAgreed(t, x)
		}
		wantTable(t, x, "")
	}
}

// 11.5: whatever two or three transactions ask of one resource, in whichever order.
func TestAllShortSequences(t *testing.T) {
	var modes [4]int
	for i := range 5 * 5 * 5 * 5 {
		for j := range modes {
			modes[j] = 1 + i%5
			i /= 5
		}
		for _, order := range [][4]uint64{{1, 2, 1, 2}, {1, 2, 2, 1}, {1, 2, 3, 1}, {1, 2, 3, 2}, {1, 2, 1, 3}} {
			x, m := lock.New(), &model{}
			for j, txn := range order {
				wantLock(t, x, txn, a, modes[j], m.lock(txn, a, modes[j]))
				wantModel(t, x, m, 4)
				wantAgreed(t, x)
			}
			for txn := range uint64(4) {
				wantRelease(t, x, txn, m.release(txn)...)
				wantModel(t, x, m, 4)
				wantAgreed(t, x)
			}
		}
	}
}
