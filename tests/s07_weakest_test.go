package tests

import (
	"fmt"
	"slices"
	"testing"

	"loop.example/g01081/impl"
)

// checkWeakest compares WeakestCut with what it must be.
func checkWeakest(t *testing.T, x tiling, least int64, part []int64) {
	t.Helper()
	n, got, code := impl.WeakestCut(x.set, x.a)
	if n != least || !slices.Equal(got, part) || code != impl.OK {
		t.Fatalf("WeakestCut of %v is %d, %v, %d, not %d, %v", x, n, got, code, least, part)
	}
}

func TestWeakestCut(t *testing.T) {
	found := map[int64]int{}
	for _, x := range append(drawnSmall(), drawnMedium()...) {
		bonds, count := bondsFor(x)
		if count < 2 {
			continue
		}
		least, part := weakestIn(bonds, count)
		checkWeakest(t, x, least, part)
		found[least]++
		if count > 30 {
			continue
		}
		if narrow, _ := narrowIn(bonds, numbersBelow(count)); narrow != least {
			t.Fatalf("the weakest cut should have %d and %d in %v", least, narrow, x)
		}
	}
	for n := range int64(7) {
		if found[n] == 0 {
			t.Error("no weakest cut has", n)
		}
	}
}

// TestWeakestEqual says that of all weakest cuts without the place 0 no one has fewer tiles, and none with as many comes before it.
func TestWeakestEqual(t *testing.T) {
	larger, later := 0, 0
	for _, x := range drawnSmall() {
		bonds, count := bondsFor(x)
		if count < 2 {
			continue
		}
		least, part, code := impl.WeakestCut(x.set, x.a)
		if code != impl.OK || len(part) == 0 || part[0] == 0 || !isPart(x.a, part) || cutIn(bonds, part) != least {
			t.Fatalf("the weakest cut is %d, %v, %d in %v", least, part, code, x)
		}
		for n, strength := range cutsIn(bonds, count) {
			if n == 0 || n&1 == 1 || strength > least {
				continue
			}
			other := partIn(n)
			if strength < least || len(other) < len(part) || len(other) == len(part) && slices.Compare(other, part) < 0 {
				t.Fatalf("the weakest cut is %v, though %v has %d in %v", part, other, strength, x)
			}
			larger += btoi(len(other) > len(part))
			later += btoi(len(other) == len(part) && n != bitsOf(part))
		}
	}
	if larger < 300 || later < 100 {
		t.Errorf("%d equal cuts with more tiles, and %d with as many", larger, later)
	}
}

// TestWeakestTable has the example of chapter 7, and other cuts that are known.
func TestWeakestTable(t *testing.T) {
	cases := []struct {
		x     tiling
		least int64
		part  string
	}{
		{drawn("o1o", "1 1", "o2o"), 2, "[2]"},
		{lineOf(1), 1, "[1]"}, {lineOf(4), 4, "[1]"}, {lineOf(0), 0, "[1]"}, {drawn("o", "2", "o"), 2, "[1]"}, {drawn("o   o"), 0, "[1]"},
		{tiling{pairSet(), assembly(placed(0, 0, 0), placed(1, 0, 1))}, 2, "[1]"}, {tiling{pairSet(), assembly(placed(0, 0, 1), placed(1, 0, 0))}, 0, "[1]"},
		// The rest of the only weakest cut has fewer tiles, but the place 0.
		{lineOf(1, 2, 2, 2), 1, "[1 2 3 4]"}, {drawn("o4o4o", "1   4", "o   o4o"), 1, "[1 2 3 4 5]"}, {drawn("o4o", "4 4", "o4o", "2 2", "o4o"), 4, "[2 3 4 5]"},
		// Several cuts with the least strength: the one with the fewest tiles, which may come later and may be in the middle.
		{lineOf(1, 1, 1), 1, "[3]"}, {lineOf(1, 1, 2), 1, "[2 3]"}, {lineOf(1, 2, 1, 2), 1, "[3 4]"}, {lineOf(2, 1, 2, 1), 1, "[4]"}, {lineOf(1, 2, 2, 1, 2, 2), 1, "[4 5 6]"},
		{drawn("o4o4o4o4o", "4   1   4", "o4o o o4o"), 1, "[2]"}, {drawn("  o", "  1", "o4o4o4o", "  1   4", "  o   o"), 1, "[6]"},
		// As many tiles: the lexicographically first one.
		{drawn("o1o", "1 1", "o1o"), 2, "[1]"}, {drawn("o1o1o", "1 1 1", "o1o1o", "1 1 1", "o1o1o"), 2, "[2]"}, {drawn("o1o1o", "1   1", "o   o", "1   1", "o1o1o"), 2, "[1]"},
		{drawn("o2o4o", "4 2 2", "o4o4o"), 6, "[2]"}, {drawn("o4o o4o", "1     1", "o4o4o4o"), 1, "[4 5]"}, {drawn("o4o o4o", "0     1", "o4o4o4o"), 0, "[4 5]"},
		{drawn("o3o   o3o", "    3", "    o3o"), 0, "[2 3]"}, {drawn("o3o o3o", "", "o o o o3o"), 0, "[1]"}, {drawn("o3o o3o", "", "o1o   o3o"), 0, "[2 3]"},
		{drawn("o4o o", "4", "o4o o4o"), 0, "[6]"}, {drawn("o o o", "4 4 4", "o o o"), 0, "[1 4]"},
		// As many tiles as there may be.
		{evenBlock(8, 8, 1), 2, "[7]"}, {evenBlock(8, 8, 4), 8, "[7]"}, {evenBlock(64, 1, 2), 2, "[63]"}, {evenBlock(4, 16, 0), 0, "[1]"},
		{drawnBlock(8, 8, func(x, _, dir int64) int64 {
			if x == 4 && dir == impl.DiEast {
				return 0
			}
			return 4
		}), 0, "[5 6 7 13 14 15 21 22 23 29 30 31 37 38 39 45 46 47 53 54 55 61 62 63]"},
	}
	for _, c := range cases {
		n, part, code := impl.WeakestCut(c.x.set, c.x.a)
		if n != c.least || fmt.Sprint(part) != c.part || code != impl.OK {
			t.Errorf("WeakestCut is %d, %v, %d, not %d, %s with the bonds %v", n, part, code, c.least, c.part, bondsIn(c.x.set, c.x.a))
		}
	}
}

// TestWeakestCounts has too few and too many tiles.
func TestWeakestCounts(t *testing.T) {
	for _, x := range []tiling{{pairSet(), impl.Assembly{}}, {pairSet(), assembly(placed(0, 0, 0))}, {strongSet(), assembly(placed(60, 60, 0))}, drawn("o")} {
		if n, part, code := impl.WeakestCut(x.set, x.a); n != 0 || len(part) != 0 || code != impl.ErrNotFound {
			t.Errorf("WeakestCut of %v is %d, %v, %d", x, n, part, code)
		}
	}
	for _, x := range drawnLarge() {
		if n, part, code := impl.WeakestCut(x.set, x.a); n != 0 || len(part) != 0 || code != impl.ErrFull {
			t.Errorf("WeakestCut of %d tiles is %d, %v, %d", len(x.a.Tiles), n, part, code)
		}
	}
}
