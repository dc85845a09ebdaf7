package tests

import (
	"fmt"
	"slices"
	"testing"

	"loop.example/g01081/impl"
)

// checkSeparated compares Connectivity and SeparatingPart of two tiles with what they must be.
func checkSeparated(t *testing.T, x tiling, pair [2]int64, least int64, part []int64) {
	t.Helper()
	what := fmt.Sprintf("of %v in %v", pair, x)
	n, code := impl.Connectivity(x.set, x.a, pair[0], pair[1])
	checkNumber(t, "Connectivity "+what, n, code, least)
	got, code := impl.SeparatingPart(x.set, x.a, pair[0], pair[1])
	if !slices.Equal(got, part) || code != impl.OK {
		t.Fatalf("SeparatingPart %s is %v, %d, not %v", what, got, code, part)
	}
}

func TestConnectivity(t *testing.T) {
	found := map[int64]int{}
	for _, x := range append(drawnSmall(), drawnMedium()...) {
		bonds, count := bondsFor(x)
		for _, pair := range somePairs(count) {
			least, part := separatedIn(bonds, count, pair[0], pair[1])
			checkSeparated(t, x, pair, least, part)
			found[least]++
		}
	}
	for _, n := range []int64{0, 1, 2, 3, 4, 5, 6, 7, 8, 12} {
		if found[n] == 0 {
			t.Error("no tiles with the connectivity", n)
		}
	}
}

// TestSmallestSeparating says that the smallest one of the weakest cuts is a part of all others.
func TestSmallestSeparating(t *testing.T) {
	several := 0
	for _, x := range drawnSmall() {
		bonds, count := bondsFor(x)
		cuts := cutsIn(bonds, count)
		for _, pair := range somePairs(count) {
			part, _ := impl.SeparatingPart(x.set, x.a, pair[0], pair[1])
			least, code := impl.Connectivity(x.set, x.a, pair[0], pair[1])
			mine := bitsOf(part)
			if code != impl.OK || cuts[mine] != least || mine>>pair[0]&1 != 0 || mine>>pair[1]&1 != 1 {
				t.Fatalf("the cut %v of %v does not have %d, %d in %v", part, pair, least, code, x)
			}
			for n, strength := range cuts {
				if n>>pair[0]&1 != 0 || n>>pair[1]&1 != 1 || strength > least {
					continue
				}
				if strength < least || n&mine != mine || n != mine && sizeOf(n) <= sizeOf(mine) {
					t.Fatalf("the cut %v of %v has %d, and %v has %d in %v", part, pair, least, partIn(n), strength, x)
				}
				several += btoi(n != mine)
			}
		}
	}
	if several < 1000 {
		t.Error("only so many weakest cuts that are not the smallest ones:", several)
	}
}

// TestSeparatedTable has the example of chapter 7, and other cuts that are known.
func TestSeparatedTable(t *testing.T) {
	example := drawn("o1o", "1 1", "o2o")
	ring := drawn("o1o1o", "1   1", "o   o", "1   1", "o1o1o")
	cases := []struct {
		x     tiling
		pair  [2]int64
		least int64
		part  string
	}{
		{example, [2]int64{0, 3}, 2, "[3]"}, {example, [2]int64{0, 1}, 3, "[1]"}, {example, [2]int64{3, 0}, 2, "[0 1]"}, {example, [2]int64{1, 0}, 3, "[0]"},
		{example, [2]int64{0, 2}, 2, "[2]"}, {example, [2]int64{2, 0}, 2, "[0 1]"}, {example, [2]int64{2, 3}, 2, "[3]"}, {example, [2]int64{3, 2}, 2, "[2]"},
		// Two tiles, with and without a bond.
		{lineOf(1), [2]int64{0, 1}, 1, "[1]"}, {lineOf(1), [2]int64{1, 0}, 1, "[0]"}, {lineOf(4), [2]int64{0, 1}, 4, "[1]"}, {lineOf(0), [2]int64{0, 1}, 0, "[1]"},
		{drawn("o", "3", "o"), [2]int64{0, 1}, 3, "[1]"}, {drawn("o   o"), [2]int64{1, 0}, 0, "[0]"},
		{tiling{pairSet(), assembly(placed(0, 0, 0), placed(1, 0, 1))}, [2]int64{0, 1}, 2, "[1]"}, {tiling{pairSet(), assembly(placed(0, 0, 1), placed(1, 0, 0))}, [2]int64{0, 1}, 0, "[1]"},
		// Several cuts with the least strength: the smallest one is next to y.
		{lineOf(2, 1, 2, 1, 2), [2]int64{0, 5}, 1, "[4 5]"}, {lineOf(2, 1, 2, 1, 2), [2]int64{5, 0}, 1, "[0 1]"}, {lineOf(2, 1, 2, 1, 2), [2]int64{0, 3}, 1, "[2 3 4 5]"},
		{lineOf(2, 1, 2, 1, 2), [2]int64{3, 0}, 1, "[0 1]"}, {lineOf(2, 1, 2, 1, 2), [2]int64{2, 3}, 2, "[3 4 5]"}, {lineOf(2, 1, 2, 1, 2), [2]int64{3, 2}, 2, "[0 1 2]"},
		{lineOf(1, 1, 1, 1), [2]int64{0, 4}, 1, "[4]"}, {lineOf(1, 1, 1, 1), [2]int64{1, 3}, 1, "[3 4]"}, {lineOf(1, 1, 1, 1), [2]int64{3, 1}, 1, "[0 1]"},
		{ring, [2]int64{0, 7}, 2, "[7]"}, {ring, [2]int64{7, 0}, 2, "[0]"}, {ring, [2]int64{2, 4}, 2, "[4]"},
		// Tiles that no bond connects: all that is connected with y is cut off.
		{drawn("o1o o1o", "1 1 1 1", "o1o o1o"), [2]int64{0, 3}, 0, "[2 3 6 7]"}, {drawn("o1o o1o", "1 1 1 1", "o1o o1o"), [2]int64{3, 0}, 0, "[0 1 4 5]"},
		{drawn("o o", "4 4", "o o"), [2]int64{0, 3}, 0, "[1 3]"}, {drawn("o4o", "", "o4o"), [2]int64{0, 3}, 0, "[2 3]"}, {drawn("o4o", "", "o4o"), [2]int64{0, 1}, 4, "[1]"},
		{drawn("o   o", "4   4", "o4o4o"), [2]int64{3, 4}, 4, "[4]"}, {lineOf(4, 0, 4), [2]int64{1, 2}, 0, "[2 3]"},
		{drawn("o4o4o", "    1", "o4o4o"), [2]int64{0, 3}, 1, "[3 4 5]"}, {drawn("o4o4o", "    1", "o4o4o"), [2]int64{4, 1}, 1, "[0 1 2]"},
		// As many tiles as there may be.
		{evenBlock(8, 8, 1), [2]int64{0, 63}, 2, "[63]"}, {evenBlock(8, 8, 4), [2]int64{9, 54}, 16, "[54]"}, {evenBlock(8, 8, 4), [2]int64{63, 62}, 8, "[0 1 2 3 4 5 6 7 8 9 10 11 12 13 14 15 16 17 18 19 20 21 22 23 24 25 26 27 28 29 30 31 32 33 34 35 36 37 38 39 40 41 42 43 44 45 46 47 48 49 50 51 52 53 54 55 56 57 58 59 60 61 62]"},
		{evenBlock(64, 1, 3), [2]int64{0, 63}, 3, "[63]"}, {evenBlock(64, 1, 3), [2]int64{63, 2}, 3, "[0 1 2]"}, {evenBlock(8, 8, 0), [2]int64{63, 0}, 0, "[0]"},
	}
	for _, c := range cases {
		n, code := impl.Connectivity(c.x.set, c.x.a, c.pair[0], c.pair[1])
		part, partCode := impl.SeparatingPart(c.x.set, c.x.a, c.pair[0], c.pair[1])
		if n != c.least || code != impl.OK || fmt.Sprint(part) != c.part || partCode != impl.OK {
			t.Errorf("%v are separated by %d, %d and %v, %d, not by %d and %s in %v", c.pair, n, code, part, partCode, c.least, c.part, c.x.a)
		}
	}
}

// TestBothDirections says that two tiles are as strongly connected in both directions, and that the smallest cuts have no tile in common.
func TestBothDirections(t *testing.T) {
	unequal := 0
	for _, x := range append(drawnSmall(), drawnMedium()...) {
		for _, pair := range somePairs(len(x.a.Tiles)) {
			there, _ := impl.Connectivity(x.set, x.a, pair[0], pair[1])
			back, code := impl.Connectivity(x.set, x.a, pair[1], pair[0])
			one, _ := impl.SeparatingPart(x.set, x.a, pair[0], pair[1])
			other, partCode := impl.SeparatingPart(x.set, x.a, pair[1], pair[0])
			common := slices.ContainsFunc(one, func(place int64) bool { return slices.Contains(other, place) })
			if there != back || code != impl.OK || partCode != impl.OK || common {
				t.Fatalf("%v: %d and %d, %v and %v in %v", pair, there, back, one, other, x)
			}
			unequal += btoi(len(one)+len(other) < len(x.a.Tiles))
		}
	}
	if unequal < 1000 {
		t.Error("only so many pairs with different cuts in the two directions:", unequal)
	}
}
