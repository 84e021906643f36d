package cycle_test

import (
	"fmt"
	"math"
	"slices"
	"testing"

	"counterpane/cycle"
)

// top is the largest node.
const top = math.MaxUint64

// arcs returns arcs of the nodes, which come in pairs: from, to, from, to.
func arcs(nodes ...uint64) []cycle.Arc {
	l := []cycle.Arc{}
	for i := 0; i < len(nodes); i += 2 {
		l = append(l, cycle.Arc{From: nodes[i], To: nodes[i+1]})
	}
	return l
}

// noise returns a source of numbers below a limit, the same ones for the same seed.
func noise(seed uint64) func(limit int) int {
	x := seed*0x9e3779b97f4a7c15 + 1
	return func(limit int) int {
		x ^= x << 13
		x ^= x >> 7
		x ^= x << 17
		return int(x>>33) % limit
	}
}

// permutations calls f with the arcs in every order.
func permutations(l []cycle.Arc, f func([]cycle.Arc)) {
	var place func(done, rest []cycle.Arc)
	place = func(done, rest []cycle.Arc) {
		if len(rest) == 0 {
			f(done)
		}
		for i := range rest {
			place(append(slices.Clone(done), rest[i]), slices.Delete(slices.Clone(rest), i, i+1))
		}
	}
	place(nil, l)
}

// nodesOf returns the nodes that the arcs name, in ascending order.
func nodesOf(l []cycle.Arc) []uint64 {
	var nodes []uint64
	for _, a := range l {
		nodes = append(nodes, a.From, a.To)
	}
	slices.Sort(nodes)
	return slices.Compact(nodes)
}

// without returns the arcs that do not name the node.
func without(l []cycle.Arc, node uint64) []cycle.Arc {
	var rest []cycle.Arc
	for _, a := range l {
		if a.From != node && a.To != node {
			rest = append(rest, a)
		}
	}
	return rest
}

// isCycle reports whether c is a cycle from the node: the definition of 12.1.
func isCycle(l []cycle.Arc, from uint64, c []uint64) bool {
	if len(c) == 0 || c[0] != from {
		return false
	}
	for i, node := range c {
		if !slices.Contains(l, cycle.Arc{From: node, To: c[(i+1)%len(c)]}) {
			return false
		}
	}
	return true
}

// modelFind tries all sequences of nodes that begin with from, the shorter ones first, those of one length in ascending order.
func modelFind(l []cycle.Arc, from uint64) []uint64 {
	nodes := nodesOf(l)
	var extend func(c []uint64, length int) []uint64
	extend = func(c []uint64, length int) []uint64 {
		if len(c) == length {
			if isCycle(l, from, c) {
				return c
			}
			return nil
		}
		for _, next := range nodes {
			if slices.Contains(l, cycle.Arc{From: c[len(c)-1], To: next}) {
				if found := extend(append(slices.Clone(c), next), length); found != nil {
					return found
				}
			}
		}
		return nil
	}
	for length := 1; length <= len(nodes); length++ {
		if c := extend([]uint64{from}, length); c != nil {
			return c
		}
	}
	return nil
}

// modelReach adds to the successors of the node those of the nodes that it has, until there are no new ones.
func modelReach(l []cycle.Arc, from uint64) []uint64 {
	reached := map[uint64]bool{}
	for before := -1; before < len(reached); {
		before = len(reached)
		for _, a := range l {
			if a.From == from || reached[a.From] {
				reached[a.To] = true
			}
		}
	}
	var nodes []uint64
	for _, node := range append(nodesOf(l), from) {
		if reached[node] {
			nodes = append(nodes, node)
			reached[node] = false
		}
	}
	return nodes
}

// wantModel fails the test if a function tells anything else than the model, from any of the nodes.
func wantModel(t *testing.T, l []cycle.Arc, nodes []uint64) {
	t.Helper()
	free := true
	for _, node := range nodes {
		find, reach := modelFind(l, node), modelReach(l, node)
		if got := cycle.Find(l, node); !slices.Equal(got, find) {
			t.Fatalf("Find(%v, %d) = %v, want %v", l, node, got, find)
		}
		if got := cycle.Reach(l, node); !slices.Equal(got, reach) {
			t.Fatalf("Reach(%v, %d) = %v, want %v", l, node, got, reach)
		}
		stuck := slices.Contains(reach, node)
		if got := cycle.Stuck(l, node); got != stuck {
			t.Fatalf("Stuck(%v, %d) = %v, want %v", l, node, got, stuck)
		}
		if stuck != (len(find) > 0) {
			t.Fatalf("%v: the models of Find and Reach differ from %d", l, node)
		}
		free = free && !stuck
	}
	if got := cycle.Free(l); got != free {
		t.Fatalf("Free(%v) = %v, want %v", l, got, free)
	}
}

// wantFind fails the test if Find does not return the cycle, for the arcs as they are or turned back to front.
func wantFind(t *testing.T, l []cycle.Arc, from uint64, want ...uint64) {
	t.Helper()
	back := slices.Clone(l)
	slices.Reverse(back)
	for _, l := range [][]cycle.Arc{l, back} {
		if got := cycle.Find(l, from); !slices.Equal(got, want) {
			t.Errorf("Find(%v, %d) = %v, want %v", l, from, got, want)
		}
	}
}

// wantReach fails the test if Reach does not return the nodes.
func wantReach(t *testing.T, l []cycle.Arc, from uint64, want ...uint64) {
	t.Helper()
	if got := cycle.Reach(l, from); !slices.Equal(got, want) {
		t.Errorf("Reach(%v, %d) = %v, want %v", l, from, got, want)
	}
}

// 12.1: the chapter's example.
func TestExample(t *testing.T) {
	l := arcs(1, 2, 2, 3, 2, 4, 3, 1)
	wantFind(t, l, 2, 2, 3, 1)
	wantFind(t, l, 1, 1, 2, 3)
	wantFind(t, l, 3, 3, 1, 2)
	wantFind(t, l, 4)
}

// 12.1, 12.2: without arcs, and for a node that no arc names, there is nothing.
func TestNothing(t *testing.T) {
	for _, l := range [][]cycle.Arc{nil, {}, arcs(1, 2, 2, 1), arcs(5, 5)} {
		for _, node := range []uint64{0, 3, 9, top} {
			if got := cycle.Find(l, node); got != nil {
				t.Errorf("Find(%v, %d) = %v, want nil", l, node, got)
			}
			if got := cycle.Reach(l, node); got != nil {
				t.Errorf("Reach(%v, %d) = %v, want nil", l, node, got)
			}
			if cycle.Stuck(l, node) {
				t.Errorf("Stuck(%v, %d)", l, node)
			}
		}
	}
	if !cycle.Free(nil) || !cycle.Free([]cycle.Arc{}) {
		t.Error("no arcs are not Free")
	}
}

// 12.1: an arc from a node to itself is a cycle of that node alone, and no other cycle is shorter.
func TestItself(t *testing.T) {
	wantFind(t, arcs(7, 7), 7, 7)
	wantFind(t, arcs(0, 0), 0, 0)
	wantFind(t, arcs(7, 1, 1, 7, 7, 7), 7, 7)
	wantFind(t, arcs(7, 1, 1, 7, 7, 7), 1, 1, 7)
	wantFind(t, arcs(1, 1, 1, 2, 2, 2, 2, 3, 3, 1), 3, 3, 1, 2)
}

// 12.1: two nodes that wait for each other are a cycle from each of them.
func TestTwo(t *testing.T) {
	l := arcs(4, 6, 6, 4)
	wantFind(t, l, 4, 4, 6)
	wantFind(t, l, 6, 6, 4)
	wantFind(t, arcs(4, 6), 4)
	wantFind(t, arcs(4, 6), 6)
}

// 12.1: a node that only reaches a cycle, or is only reached from it, has none.
func TestBesideCycle(t *testing.T) {
	l := arcs(1, 2, 2, 3, 3, 2, 3, 4)
	wantFind(t, l, 1)
	wantFind(t, l, 4)
	wantFind(t, l, 2, 2, 3)
	wantFind(t, arcs(1, 2, 2, 2), 1)
	wantFind(t, arcs(2, 2, 2, 1), 1)
	wantFind(t, arcs(5, 1, 1, 2, 2, 3, 3, 1), 5)
}

// 12.1: the shortest cycle is returned, even if its nodes are larger.
func TestShortest(t *testing.T) {
	l := arcs(5, 1, 1, 2, 2, 5, 5, 9, 9, 5)
	wantFind(t, l, 5, 5, 9)
	wantFind(t, l, 1, 1, 2, 5)
	wantFind(t, l, 2, 2, 5, 1)
	wantFind(t, arcs(1, 2, 2, 3, 3, 4, 4, 5, 5, 1, 3, 1), 1, 1, 2, 3)
	wantFind(t, arcs(1, 2, 2, 3, 3, 4, 4, 5, 5, 1, 1, 4), 1, 1, 4, 5)
	// From the smaller second node the way back is longer.
	wantFind(t, arcs(1, 2, 2, 4, 4, 5, 5, 1, 1, 3, 3, 5), 1, 1, 3, 5)
	// The smaller second node leads away to a cycle without the first.
	wantFind(t, arcs(1, 2, 2, 3, 3, 2, 1, 8, 8, 9, 9, 1), 1, 1, 8, 9)
}

// 12.1: of several shortest cycles the one with the smallest second node is returned.
func TestSecondNode(t *testing.T) {
	wantFind(t, arcs(5, 8, 8, 5, 5, 7, 7, 5, 5, 9, 9, 5), 5, 5, 7)
	wantFind(t, arcs(5, 8, 8, 1, 1, 5, 5, 7, 7, 9, 9, 5), 5, 5, 7, 9)
	wantFind(t, arcs(5, top, top, 5, 5, 0, 0, 5), 5, 5, 0)
	// Numbers above half the range are larger than those below.
	wantFind(t, arcs(5, 1<<63, 1<<63, 5, 5, 1<<63-1, 1<<63-1, 5), 5, 5, 1<<63-1)
	wantFind(t, arcs(5, 1<<32, 1<<32, 5, 5, 1, 1, 5), 5, 5, 1)
}

// 12.1: of several with the same second node the third one decides, and so on.
func TestLaterNodes(t *testing.T) {
	wantFind(t, arcs(1, 2, 2, 6, 2, 4, 2, 5, 6, 1, 5, 1, 4, 1), 1, 1, 2, 4)
	wantFind(t, arcs(1, 2, 2, 3, 3, 9, 3, 8, 8, 1, 9, 1), 1, 1, 2, 3, 8)
	wantFind(t, arcs(1, 2, 2, 3, 3, 9, 3, 8, 8, 7, 9, 6, 7, 1, 6, 1), 1, 1, 2, 3, 8, 7)
	// The earlier node outweighs the later ones.
	wantFind(t, arcs(1, 3, 3, 4, 4, 1, 1, 2, 2, 9, 9, 1), 1, 1, 2, 9)
	wantFind(t, arcs(9, 3, 3, 8, 8, 1, 3, 7, 7, 6, 6, 9, 1, 9), 9, 9, 3, 7, 6)
	// Both ways join again.
	wantFind(t, arcs(1, 3, 3, 5, 1, 2, 2, 5, 5, 7, 5, 6, 6, 1, 7, 1), 1, 1, 2, 5, 6)
}

// 12.1, 12.2: the smallest and the largest number are nodes like others.
func TestLimits(t *testing.T) {
	l := arcs(0, top, top, 0)
	wantFind(t, l, 0, 0, top)
	wantFind(t, l, top, top, 0)
	wantReach(t, l, 0, 0, top)
	wantReach(t, l, top, 0, top)
	wantFind(t, arcs(top, top), top, top)
	wantFind(t, arcs(top, 0, 0, 1<<63, 1<<63, top-1, top-1, top), top, top, 0, 1<<63, top-1)
	wantReach(t, arcs(1, top, 1, 0, 1, 1<<63, 1, 1<<63-1), 1, 0, 1<<63-1, 1<<63, top)
	if cycle.Free(l) || !cycle.Stuck(l, 0) || !cycle.Stuck(l, top) || cycle.Stuck(l, 1) {
		t.Error("0 and the largest number wait for each other, which is not noticed")
	}
	if !cycle.Free(arcs(0, top)) || !cycle.Free(arcs(top, 0)) {
		t.Error("a single arc is not Free")
	}
}

// 12.1, 12.2: how often an arc occurs, and where in the list, does not matter.
func TestOrderOfArcs(t *testing.T) {
	l := arcs(1, 3, 3, 1, 1, 2, 2, 1, 3, 4)
	permutations(l, func(l []cycle.Arc) {
		for _, l := range [][]cycle.Arc{l, append(slices.Clone(l), l...), append(slices.Clone(l), l[0], l[0], l[1])} {
			wantFind(t, l, 1, 1, 2)
			wantFind(t, l, 2, 2, 1)
			wantFind(t, l, 3, 3, 1)
			wantFind(t, l, 4)
			wantReach(t, l, 1, 1, 2, 3, 4)
			wantReach(t, l, 4)
			if cycle.Free(l) || !cycle.Stuck(l, 3) || cycle.Stuck(l, 4) {
				t.Errorf("%v: Free or Stuck is wrong", l)
			}
		}
	})
	permutations(arcs(1, 2, 1, 3, 2, 4, 3, 4, 1, 2, 3, 4), func(l []cycle.Arc) {
		if !cycle.Free(l) {
			t.Errorf("Free(%v) is false", l)
		}
	})
}

// 12.2: Reach returns the nodes at the ends of all paths, in ascending order, each once, and the node itself only if a path leads back to it.
func TestReach(t *testing.T) {
	l := arcs(5, 9, 9, 3, 5, 4, 4, 3, 3, 7, 8, 5, 2, 2)
	wantReach(t, l, 5, 3, 4, 7, 9)
	wantReach(t, l, 9, 3, 7)
	wantReach(t, l, 8, 3, 4, 5, 7, 9)
	wantReach(t, l, 2, 2)
	wantReach(t, l, 7)
	l = append(l, cycle.Arc{From: 7, To: 8})
	wantReach(t, l, 5, 3, 4, 5, 7, 8, 9)
	wantReach(t, l, 7, 3, 4, 5, 7, 8, 9)
	wantReach(t, arcs(1, 2, 2, 2), 1, 2)
}

// 12.2: Stuck is told from a cycle through the node alone, Free from any cycle of the arcs.
func TestStuckAndFree(t *testing.T) {
	for _, c := range []struct {
		arcs  []cycle.Arc
		stuck []uint64
	}{
		{arcs(1, 1), []uint64{1}},
		{arcs(1, 2), nil},
		{arcs(1, 2, 2, 1), []uint64{1, 2}},
		{arcs(1, 2, 2, 3, 3, 2, 3, 4), []uint64{2, 3}},
		{arcs(1, 2, 3, 4, 4, 5, 5, 3), []uint64{3, 4, 5}},
		{arcs(1, 2, 1, 3, 2, 4, 3, 4), nil},
		{arcs(4, 4, 1, 2, 2, 3, 3, 1, 1, 5), []uint64{1, 2, 3, 4}},
		{arcs(1, 2, 2, 3, 3, 4, 4, 5, 5, 5), []uint64{5}},
		{arcs(1, 1, 1, 2, 2, 3, 3, 4, 4, 5), []uint64{1}},
	} {
		for _, node := range []uint64{0, 1, 2, 3, 4, 5, 6} {
			want := slices.Contains(c.stuck, node)
			if got := cycle.Stuck(c.arcs, node); got != want {
				t.Errorf("Stuck(%v, %d) = %v, want %v", c.arcs, node, got, want)
			}
		}
		if got, want := cycle.Free(c.arcs), len(c.stuck) == 0; got != want {
			t.Errorf("Free(%v) = %v, want %v", c.arcs, got, want)
		}
	}
}

// 12.3: the largest stamp decides, not the element, and the last one of several.
func TestYoungest(t *testing.T) {
	same := func(n uint64) uint64 { return n }
	for _, c := range []struct {
		name  string
		l     []uint64
		stamp func(uint64) uint64
		want  int
	}{
		{"nil", nil, same, -1},
		{"an empty list", []uint64{}, same, -1},
		{"one", []uint64{7}, same, 0},
		{"one with stamp 0", []uint64{0}, same, 0},
		{"one with the largest stamp", []uint64{top}, same, 0},
		{"the first", []uint64{9, 3, 5}, same, 0},
		{"the middle", []uint64{3, 9, 5}, same, 1},
		{"the last", []uint64{3, 5, 9}, same, 2},
		{"the last of equal elements", []uint64{5, 9, 9, 2}, same, 2},
		{"the last of all", []uint64{4, 4, 4}, same, 2},
		{"stamp 0 throughout", []uint64{0, 0, 0, 0}, same, 3},
		{"equal ones apart", []uint64{9, 1, 9, 1}, same, 2},
		{"the other way round", []uint64{5, 2, 9, 4}, func(n uint64) uint64 { return 100 - n }, 1},
		{"the other way round, all bits", []uint64{5, 0, 9, top, 0}, func(n uint64) uint64 { return ^n }, 4},
		{"all alike", []uint64{8, 6, 7}, func(uint64) uint64 { return 12 }, 2},
		{"all 0", []uint64{8, 6, 7}, func(uint64) uint64 { return 0 }, 2},
		{"tens alike", []uint64{21, 29, 20, 14, 19}, func(n uint64) uint64 { return n / 10 }, 2},
		{"above half the range", []uint64{1, 1 << 63, 2, top, 1<<63 - 1}, same, 3},
		{"above 32 bits", []uint64{1 << 32, 1, 2}, same, 0},
		{"the largest first", []uint64{top, 1 << 63, 0}, same, 0},
	} {
		if got := cycle.Youngest(c.l, c.stamp); got != c.want {
			t.Errorf("%s: Youngest(%v) = %d, want %d", c.name, c.l, got, c.want)
		}
	}
}

// 12.3: random lists, held against the definition: nothing in the list is larger, and nothing behind it as large.
func TestYoungestRandom(t *testing.T) {
	next := noise(3)
	for range 2000 {
		l := make([]uint64, next(12))
		for i := range l {
			l[i] = uint64(next(6))
		}
		stamps := []uint64{uint64(next(4)), uint64(next(4)), top, uint64(next(4)), 0, uint64(next(4))}
		want := -1
		for i := range l {
			right := true
			for j := range l {
				right = right && stamps[l[j]] <= stamps[l[i]] && (j <= i || stamps[l[j]] < stamps[l[i]])
			}
			if right {
				want = i
			}
		}
		if got := cycle.Youngest(l, func(n uint64) uint64 { return stamps[n] }); got != want {
			t.Fatalf("Youngest(%v) with stamps %v = %d, want %d", l, stamps, got, want)
		}
	}
}

// 12.3: a function that does not exist gives no element a stamp.
func TestYoungestWithoutStamp(t *testing.T) {
	for _, l := range [][]uint64{nil, {}, {1}, {1, 2}} {
		if got := cycle.Youngest(l, nil); got != -1 {
			t.Errorf("Youngest(%v, nil) = %d, want -1", l, got)
		}
	}
}

// 12.1, 12.2: all lists of arcs over three nodes, each arc at most once, and a node beside them.
func TestAllOfThreeNodes(t *testing.T) {
	nodes := []uint64{0, 6, top}
	var all []cycle.Arc
	for _, from := range nodes {
		for _, to := range nodes {
			all = append(all, cycle.Arc{From: from, To: to})
		}
	}
	for set := range 1 << len(all) {
		var l []cycle.Arc
		for i, a := range all {
			if set>>i&1 == 1 {
				l = append(l, a)
			}
		}
		wantModel(t, l, append(slices.Clone(nodes), 5))
	}
}

// randomArcs returns up to limit arcs between the nodes.
func randomArcs(next func(int) int, nodes []uint64, limit int) []cycle.Arc {
	l := make([]cycle.Arc, next(limit+1))
	for i := range l {
		l[i] = cycle.Arc{From: nodes[next(len(nodes))], To: nodes[next(len(nodes))]}
	}
	return l
}

// 12.1, 12.2: random arcs over few nodes, held against the model.
func TestRandom(t *testing.T) {
	nodes := []uint64{0, 1, 2, 1 << 40, top - 1, top}
	for _, limit := range []int{4, 6, 8, 12, 30, 60} {
		next := noise(uint64(limit))
		for range 600 {
			wantModel(t, randomArcs(next, nodes, limit), nodes)
		}
	}
}

// 12.1, 12.2: long random lists of arcs, of which hardly any leads to the node itself, so that the cycles are longer.
func TestRandomRings(t *testing.T) {
	nodes := []uint64{3, 1, 4, 15, 9, 2, 6}
	next := noise(9)
	for range 400 {
		var l []cycle.Arc
		for range 200 {
			i := next(len(nodes))
			step := 1 + next(2)
			l = append(l, cycle.Arc{From: nodes[i], To: nodes[(i+step)%len(nodes)]})
		}
		wantModel(t, l[:1+next(len(l))], nodes)
		wantModel(t, l[:1+next(12)], nodes)
	}
}

// 12.4: what Find returns is a cycle of nodes that differ, exactly if the node reaches itself; without any node of it, it is gone.
func TestConsequence(t *testing.T) {
	next := noise(4)
	nodes := []uint64{1, 2, 3, 4, 5, 6, 7, 8, 9, 10, 11, 12}
	found := 0
	for range 1500 {
		l := randomArcs(next, nodes, 30)
		for _, node := range nodes {
			c := cycle.Find(l, node)
			if (len(c) > 0) != slices.Contains(modelReach(l, node), node) {
				t.Fatalf("Find(%v, %d) = %v", l, node, c)
			}
			if len(c) > 0 {
				found++
				wantBroken(t, l, node, c)
			}
		}
	}
	if found < 1000 {
		t.Errorf("only %d cycles were found", found)
	}
}

// wantBroken fails the test if c is no cycle of different nodes from the node, or still one after a node of it was removed.
func wantBroken(t *testing.T, l []cycle.Arc, from uint64, c []uint64) {
	t.Helper()
	if !isCycle(l, from, c) {
		t.Fatalf("Find(%v, %d) = %v, which is no cycle", l, from, c)
	}
	sorted := slices.Sorted(slices.Values(c))
	if len(slices.Compact(sorted)) != len(c) {
		t.Fatalf("Find(%v, %d) = %v: a node occurs twice", l, from, c)
	}
	for _, out := range c {
		rest := without(l, out)
		if isCycle(rest, from, c) || slices.Contains(cycle.Reach(rest, from), out) {
			t.Fatalf("%v: without %d there still is the cycle %v", l, out, c)
		}
		if d := cycle.Find(rest, from); slices.Contains(d, out) || len(d) > 0 && len(d) < len(c) {
			t.Fatalf("%v: without %d, Find returns %v from %d", l, out, d, from)
		}
	}
}

// 12.4: removing a node of each cycle that is found, one after the other, ends with arcs that are Free.
func TestRemoveUntilFree(t *testing.T) {
	next := noise(8)
	nodes := []uint64{1, 2, 3, 4, 5, 6, 7, 8}
	for range 300 {
		l := randomArcs(next, nodes, 40)
		for _, node := range nodes {
			for c := cycle.Find(l, node); len(c) > 0; c = cycle.Find(l, node) {
				l = without(l, c[next(len(c))])
			}
			if cycle.Stuck(l, node) {
				t.Fatalf("%v: %d is still Stuck", l, node)
			}
		}
		if !cycle.Free(l) {
			t.Fatalf("%v is not Free", l)
		}
	}
}

// 12.1, 12.2, P0: a path as long as the list is not too long.
func TestLong(t *testing.T) {
	const n = 200000
	var l []cycle.Arc
	for i := uint64(n - 1); i > 0; i-- {
		l = append(l, cycle.Arc{From: i - 1, To: i})
	}
	if !cycle.Free(l) || cycle.Stuck(l, 0) || cycle.Find(l, 0) != nil || len(cycle.Reach(l, 0)) != n-1 {
		t.Error("a path is taken for a cycle")
	}
	l = append(l, cycle.Arc{From: n - 1, To: 0})
	c := cycle.Find(l, 0)
	for i, node := range c {
		if node != uint64(i) {
			t.Fatalf("node %d of the ring is %d", i, node)
		}
	}
	if cycle.Free(l) || !cycle.Stuck(l, n/2) || len(c) != n || !slices.Equal(cycle.Reach(l, n/2), c) {
		t.Error("the ring is not found")
	}
}

// 12.1, 12.2, P0: one node with many arcs to it and from it.
func TestWide(t *testing.T) {
	const n = 50000
	var l []cycle.Arc
	for i := uint64(n); i > 0; i-- {
		l = append(l, cycle.Arc{From: 0, To: i}, cycle.Arc{From: i, To: n + 1})
	}
	if !cycle.Free(l) || cycle.Find(l, 0) != nil || len(cycle.Reach(l, 0)) != n+1 {
		t.Error("there is no cycle, but one is found")
	}
	l = append(l, cycle.Arc{From: n + 1, To: 0})
	wantFind(t, l, 0, 0, 1, n+1)
	wantFind(t, l, n+1, n+1, 0, 1)
	if cycle.Free(l) || len(cycle.Reach(l, n)) != n+2 {
		t.Error("the cycles are not found")
	}
}

// R3: the arguments stay as they are, also behind the length of a slice, which does not count either.
func TestArgumentsKept(t *testing.T) {
	room := arcs(3, 1, 2, 3, 1, 2, 2, 3, 3, 3, 1, 9)
	l, before := room[:4], slices.Clone(room)
	check := func(name string) {
		t.Helper()
		if !slices.Equal(room, before) {
			t.Fatalf("after %s the arcs are %v, want %v", name, room, before)
		}
	}
	wantFind(t, l, 3, 3, 1, 2)
	check("Find")
	wantReach(t, l, 1, 1, 2, 3)
	check("Reach")
	if !cycle.Stuck(l, 1) || cycle.Stuck(l, 9) {
		t.Error("Stuck is wrong")
	}
	check("Stuck")
	if cycle.Free(l) || !cycle.Free(room[:2]) {
		t.Error("Free is wrong")
	}
	check("Free")
	list := []uint64{4, 2, 4, 1, 9}
	if got := cycle.Youngest(list[:4], func(n uint64) uint64 { return n }); got != 2 {
		t.Errorf("Youngest = %d, want 2", got)
	}
	if !slices.Equal(list, []uint64{4, 2, 4, 1, 9}) {
		t.Errorf("after Youngest the list is %v", list)
	}
}

// R3: what was returned is neither written to by later calls, nor returned again by them.
func TestResultsApart(t *testing.T) {
	l := arcs(1, 2, 2, 3, 3, 1)
	find, again := cycle.Find(l, 1), cycle.Find(l, 1)
	reach, reached := cycle.Reach(l, 1), cycle.Reach(l, 1)
	clear(find[:cap(find)])
	clear(reach[:cap(reach)])
	l[0] = cycle.Arc{From: 8, To: 8}
	if !slices.Equal(again, []uint64{1, 2, 3}) || !slices.Equal(reached, []uint64{1, 2, 3}) {
		t.Errorf("the other results changed, too: %v, %v", again, reached)
	}
	if want := arcs(8, 8, 2, 3, 3, 1); !slices.Equal(l, want) {
		t.Errorf("the arcs are %v, want %v", l, want)
	}
	wantFind(t, arcs(1, 2, 2, 3, 3, 1), 1, 1, 2, 3)
	wantReach(t, arcs(1, 2, 2, 3, 3, 1), 1, 1, 2, 3)
}

// P6: what a call returns depends on its arguments alone, whatever was called before.
func TestSameAgain(t *testing.T) {
	next := noise(6)
	nodes := []uint64{0, 1, 2, 3, 4, 5, 6, 7, 8, top}
	tell := func(l []cycle.Arc) string {
		text := fmt.Sprint(cycle.Free(l))
		for _, node := range nodes {
			text += fmt.Sprint(cycle.Find(l, node), cycle.Reach(l, node), cycle.Stuck(l, node))
		}
		return text
	}
	var lists [][]cycle.Arc
	var first []string
	for range 50 {
		l := randomArcs(next, nodes, 25)
		lists, first = append(lists, l), append(first, tell(l))
	}
	for range 5 {
		for i, l := range lists {
			if got := tell(l); got != first[i] {
				t.Fatalf("%v: %s, but first %s", l, got, first[i])
			}
		}
	}
}
