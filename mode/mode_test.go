package mode_test

import (
	"math"
	"slices"
	"testing"

	"counterpane/mode"
)

// six returns the numbers of the modes, in the order of 10.1: None, IS, IX, S, SIX, X.
func six() []int {
	return []int{0, 1, 2, 3, 4, 5}
}

// others returns numbers that are not modes: next to them, at both ends of the range, and some that end in the same bits as a mode.
func others() []int {
	list := []int{-1, 6, math.MinInt, math.MaxInt}
	for _, m := range six() {
		list = append(list, -6+m, 6+m, 8+m, 256+m, 1<<16+m, 1<<32+m, math.MinInt+m, math.MaxInt-m)
	}
	return list
}

// numbers returns the modes and numbers that are not modes.
func numbers() []int {
	return append(six(), others()...)
}

// together says which modes go together, by row and column in the order of 10.1.
func together() []string {
	return []string{
		"yyyyyy", // None
		"yyyyyn", // IS
		"yyynnn", // IX
		"yynynn", // S
		"yynnnn", // SIX
		"ynnnnn", // X
	}
}

// covers says which mode (the row) covers which one (the column).
func covers() []string {
	return []string{
		"ynnnnn", // None
		"yynnnn", // IS
		"yyynnn", // IX
		"yynynn", // S
		"yyyyyn", // SIX
		"yyyyyy", // X
	}
}

// joins holds the first mode that covers both the row's and the column's.
func joins() [][]int {
	return [][]int{
		{0, 1, 2, 3, 4, 5}, // None
		{1, 1, 2, 3, 4, 5}, // IS
		{2, 2, 2, 4, 4, 5}, // IX
		{3, 3, 4, 3, 4, 5}, // S
		{4, 4, 4, 4, 4, 5}, // SIX
		{5, 5, 5, 5, 5, 5}, // X
	}
}

// unlike calls visit for each pair in which the first, the second or both numbers are no modes.
func unlike(visit func(a, b int)) {
	for _, a := range others() {
		for _, m := range six() {
			visit(a, m)
			visit(m, a)
		}
		for _, b := range others() {
			visit(a, b)
		}
	}
}

// 10.1: the numbers of the modes.
func TestConstants(t *testing.T) {
	got := []int{mode.None, mode.IS, mode.IX, mode.S, mode.SIX, mode.X}
	if !slices.Equal(got, six()) {
		t.Errorf("None, IS, IX, S, SIX, X = %v", got)
	}
}

// 10.1: the constants have no type of their own, so that they become any number.
func TestConstantsHaveNoType(t *testing.T) {
	var small uint8 = mode.X
	var signed int64 = mode.SIX
	if small != 5 || signed != 4 {
		t.Errorf("X = %d, SIX = %d", small, signed)
	}
}

// 10.1: the six modes, and no other number.
func TestRight(t *testing.T) {
	for _, m := range six() {
		if !mode.Right(m) {
			t.Errorf("Right(%d) = false", m)
		}
	}
	for _, m := range others() {
		if mode.Right(m) {
			t.Errorf("Right(%d) = true", m)
		}
	}
}

// 10.1: all pairs of modes.
func TestTogether(t *testing.T) {
	for a, row := range together() {
		for b := range six() {
			if got := mode.Together(a, b); got != (row[b] == 'y') {
				t.Errorf("Together(%d, %d) = %v", a, b, got)
			}
		}
	}
}

// 10.1: nothing goes together with a number that is not a mode, not even None or the number itself.
func TestTogetherNoMode(t *testing.T) {
	unlike(func(a, b int) {
		if mode.Together(a, b) {
			t.Errorf("Together(%d, %d) = true", a, b)
		}
	})
}

// 10.2: all pairs of modes.
func TestCovers(t *testing.T) {
	for a, row := range covers() {
		for b := range six() {
			if got := mode.Covers(a, b); got != (row[b] == 'y') {
				t.Errorf("Covers(%d, %d) = %v", a, b, got)
			}
		}
	}
}

// 10.2: at least the reads and at least the writes, as 10.1 tells them of each mode: 0 is nothing, 1 some, 2 all.
func TestCoversByRights(t *testing.T) {
	reads := []int{0, 1, 1, 2, 2, 2}
	writes := []int{0, 0, 1, 0, 1, 2}
	for _, a := range six() {
		for _, b := range six() {
			want := reads[a] >= reads[b] && writes[a] >= writes[b]
			if got := mode.Covers(a, b); got != want {
				t.Errorf("Covers(%d, %d) = %v", a, b, got)
			}
		}
	}
}

// 10.2: a number that is not a mode covers nothing, and nothing covers it, not even X or the number itself.
func TestCoversNoMode(t *testing.T) {
	unlike(func(a, b int) {
		if mode.Covers(a, b) {
			t.Errorf("Covers(%d, %d) = true", a, b)
		}
	})
}

// 10.2: all pairs of modes.
func TestJoin(t *testing.T) {
	for a, row := range joins() {
		for b, want := range row {
			if got := mode.Join(a, b); got != want {
				t.Errorf("Join(%d, %d) = %d, want %d", a, b, got, want)
			}
		}
	}
}

// 10.2: the first one, in the order of 10.1, of those that cover both.
func TestJoinIsFirst(t *testing.T) {
	for _, a := range six() {
		for _, b := range six() {
			want := slices.IndexFunc(six(), func(m int) bool {
				return mode.Covers(m, a) && mode.Covers(m, b)
			})
			if got := mode.Join(a, b); got != want {
				t.Errorf("Join(%d, %d) = %d, want %d", a, b, got, want)
			}
		}
	}
}

// 10.2: X, whichever of the two is not a mode.
func TestJoinNoMode(t *testing.T) {
	unlike(func(a, b int) {
		if got := mode.Join(a, b); got != 5 {
			t.Errorf("Join(%d, %d) = %d", a, b, got)
		}
	})
}

// 10.3: the names of the six modes; no other number has one.
func TestName(t *testing.T) {
	for m, want := range []string{"none", "is", "ix", "s", "six", "x"} {
		if got := mode.Name(m); got != want {
			t.Errorf("Name(%d) = %q, want %q", m, got, want)
		}
	}
	for _, m := range others() {
		if got := mode.Name(m); got != "" {
			t.Errorf("Name(%d) = %q", m, got)
		}
	}
}

// 10.3: None, IS, IX, IS, IX and IX for the six modes; IX for every other number.
func TestAbove(t *testing.T) {
	for m, want := range []int{0, 1, 2, 1, 2, 2} {
		if got := mode.Above(m); got != want {
			t.Errorf("Above(%d) = %d, want %d", m, got, want)
		}
	}
	for _, m := range others() {
		if got := mode.Above(m); got != 2 {
			t.Errorf("Above(%d) = %d", m, got)
		}
	}
}

// 10.4: also for numbers that are not modes.
func TestTogetherIsSymmetric(t *testing.T) {
	for _, a := range numbers() {
		for _, b := range numbers() {
			if mode.Together(a, b) != mode.Together(b, a) {
				t.Errorf("Together(%d, %d) = %v, and the other way round it is not", a, b, mode.Together(a, b))
			}
		}
	}
}

// 10.4: a mode that goes together with a mode goes together with each one that this covers.
func TestTogetherWithLess(t *testing.T) {
	for _, a := range six() {
		for _, b := range six() {
			for _, c := range six() {
				if mode.Together(a, b) && mode.Covers(b, c) && !mode.Together(a, c) {
					t.Errorf("%d goes together with %d, which covers %d, but not with %d", a, b, c, c)
				}
			}
		}
	}
}

// 10.4: every mode covers itself.
func TestCoversIsReflexive(t *testing.T) {
	for _, m := range six() {
		if !mode.Covers(m, m) {
			t.Errorf("Covers(%d, %d) = false", m, m)
		}
	}
}

// 10.4: no two modes cover each other.
func TestCoversIsAntisymmetric(t *testing.T) {
	for _, a := range numbers() {
		for _, b := range numbers() {
			if a != b && mode.Covers(a, b) && mode.Covers(b, a) {
				t.Errorf("%d and %d cover each other", a, b)
			}
		}
	}
}

// 10.4: what is covered by a covered mode is covered.
func TestCoversIsTransitive(t *testing.T) {
	for _, a := range numbers() {
		for _, b := range numbers() {
			for _, c := range numbers() {
				if mode.Covers(a, b) && mode.Covers(b, c) && !mode.Covers(a, c) {
					t.Errorf("%d covers %d, and %d covers %d, but %d does not cover %d", a, b, b, c, a, c)
				}
			}
		}
	}
}

// 10.4: all modes cover None, and X covers all modes.
func TestEnds(t *testing.T) {
	for _, m := range six() {
		if !mode.Covers(m, mode.None) {
			t.Errorf("Covers(%d, None) = false", m)
		}
		if !mode.Covers(mode.X, m) {
			t.Errorf("Covers(X, %d) = false", m)
		}
	}
}

// 10.4: Join covers both, and every mode that covers both covers it.
func TestJoinIsLeast(t *testing.T) {
	for _, a := range six() {
		for _, b := range six() {
			join := mode.Join(a, b)
			if !mode.Covers(join, a) || !mode.Covers(join, b) {
				t.Errorf("Join(%d, %d) = %d, which does not cover both", a, b, join)
			}
			for _, m := range six() {
				if mode.Covers(m, a) && mode.Covers(m, b) && !mode.Covers(m, join) {
					t.Errorf("Join(%d, %d) = %d, but %d covers both without it", a, b, join, m)
				}
			}
		}
	}
}

// 10.4: of the modes that both of two cover, one covers all.
func TestGreatestCovered(t *testing.T) {
	for _, a := range six() {
		for _, b := range six() {
			below := slices.DeleteFunc(six(), func(m int) bool {
				return !mode.Covers(a, m) || !mode.Covers(b, m)
			})
			greatest := slices.ContainsFunc(below, func(g int) bool {
				return !slices.ContainsFunc(below, func(m int) bool { return !mode.Covers(g, m) })
			})
			if !greatest {
				t.Errorf("%d and %d cover %v, of which none covers all", a, b, below)
			}
		}
	}
}

// 10.4: the join of two is one of them exactly if it covers the other one.
func TestJoinTellsCovers(t *testing.T) {
	for _, a := range six() {
		for _, b := range six() {
			if got := mode.Join(a, b); (got == a) != mode.Covers(a, b) {
				t.Errorf("Join(%d, %d) = %d, Covers = %v", a, b, got, mode.Covers(a, b))
			}
		}
	}
}

// 10.4: the join of a mode with itself is that mode.
func TestJoinIsIdempotent(t *testing.T) {
	for _, m := range six() {
		if got := mode.Join(m, m); got != m {
			t.Errorf("Join(%d, %d) = %d", m, m, got)
		}
	}
}

// 10.4: also for numbers that are not modes.
func TestJoinIsCommutative(t *testing.T) {
	for _, a := range numbers() {
		for _, b := range numbers() {
			if ab, ba := mode.Join(a, b), mode.Join(b, a); ab != ba {
				t.Errorf("Join(%d, %d) = %d, and the other way round %d", a, b, ab, ba)
			}
		}
	}
}

// 10.4: also for numbers that are not modes.
func TestJoinIsAssociative(t *testing.T) {
	for _, a := range numbers() {
		for _, b := range numbers() {
			for _, c := range numbers() {
				left, right := mode.Join(mode.Join(a, b), c), mode.Join(a, mode.Join(b, c))
				if left != right {
					t.Errorf("the join of %d, %d and %d is %d from the left, %d from the right", a, b, c, left, right)
				}
			}
		}
	}
}

// The chapter's example: S and IX are not compatible; their join is SIX, which is compatible with IS.
func TestExample(t *testing.T) {
	if mode.Together(mode.S, mode.IX) || mode.Together(mode.IX, mode.S) {
		t.Error("S and IX go together")
	}
	join := mode.Join(mode.S, mode.IX)
	if join != mode.SIX || !mode.Together(join, mode.IS) {
		t.Errorf("Join(S, IX) = %d, with IS: %v", join, mode.Together(join, mode.IS))
	}
}

// answers is what the functions tell of two numbers.
type answers struct {
	right, together, covers bool
	join, above             int
	name                    string
}

// ask calls every function.
func ask(a, b int) answers {
	return answers{mode.Right(a), mode.Together(a, b), mode.Covers(a, b), mode.Join(a, b), mode.Above(a), mode.Name(a)}
}

// P6: earlier calls do not change an answer, in whichever order they come.
func TestOnlyArguments(t *testing.T) {
	list := numbers()
	first := map[[2]int]answers{}
	for _, a := range list {
		for _, b := range list {
			first[[2]int{a, b}] = ask(a, b)
		}
	}
	slices.Reverse(list)
	for _, b := range list {
		for _, a := range list {
			if got, want := ask(a, b), first[[2]int{a, b}]; got != want {
				t.Errorf("%d and %d: %+v, before %+v", a, b, got, want)
			}
		}
	}
}
