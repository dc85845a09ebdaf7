package tests

import (
	"fmt"
	"slices"
	"testing"

	"loop.example/g01081/impl"
)

// checkApart compares BreakApart with what it must be.
func checkApart(t *testing.T, x tiling, temperature int64, want [][]int64) {
	t.Helper()
	parts, code := impl.BreakApart(x.set, x.a, temperature)
	if !slices.EqualFunc(parts, want, slices.Equal) || code != impl.OK {
		t.Fatalf("BreakApart of %v at %d is %v, %d, not %v", x, temperature, parts, code, want)
	}
}

func TestBreakApart(t *testing.T) {
	sizes := map[int]int{}
	for _, x := range append(drawnSmall(), drawnMedium()...) {
		bonds, count := bondsFor(x)
		for temperature := int64(1); temperature <= 16; temperature++ {
			if count > 30 && temperature > 9 && temperature < 16 || count > fewTiles && temperature%3 == 0 {
				continue
			}
			want := brokenIn(bonds, count, temperature)
			checkApart(t, x, temperature, want)
			for _, part := range want {
				if len(want) > 1 {
					sizes[len(part)]++
				}
			}
		}
	}
	for size := 1; size <= 9; size++ {
		if sizes[size] == 0 {
			t.Error("no assembly breaks into parts of so many tiles:", size)
		}
	}
}

// TestBrokenMany compares both ways to find out what BreakApart must return.
func TestBrokenMany(t *testing.T) {
	for _, x := range drawnSmall() {
		bonds, count := bondsFor(x)
		if count == 0 {
			continue
		}
		for temperature := int64(1); temperature <= 16; temperature++ {
			many, few := brokenMany(bonds, numbersBelow(count), temperature), brokenIn(bonds, count, temperature)
			slices.SortFunc(many, slices.Compare)
			if !slices.EqualFunc(many, few, slices.Equal) {
				t.Fatalf("%v and %v at %d in %v", many, few, temperature, x)
			}
		}
	}
}

// TestApartTable has the example of chapter 7, and other assemblies of which the stable parts are known.
func TestApartTable(t *testing.T) {
	square := drawn("o1o", "1 1", "o2o")
	// Two blocks, with bonds of 1 between them and within.
	blocks := drawn("o1o1o1o", "1 1 1 1", "o1o o1o")
	cases := []struct {
		x           tiling
		temperature int64
		want        string
	}{
		{square, 3, "[[0] [1] [2] [3]]"}, {square, 2, "[[0 1 2 3]]"}, {square, 1, "[[0 1 2 3]]"}, {square, 16, "[[0] [1] [2] [3]]"},
		{tiling{pairSet(), impl.Assembly{}}, 1, "[]"}, {tiling{pairSet(), impl.Assembly{}}, 16, "[]"}, {tiling{pairSet(), assembly(placed(0, 0, 0))}, 1, "[[0]]"}, {drawn("o"), 16, "[[0]]"},
		{lineOf(1), 1, "[[0 1]]"}, {lineOf(1), 2, "[[0] [1]]"}, {lineOf(4), 4, "[[0 1]]"}, {lineOf(4), 5, "[[0] [1]]"}, {lineOf(0), 1, "[[0] [1]]"}, {drawn("o   o"), 1, "[[0] [1]]"},
		{lineOf(4, 3, 2, 1, 2, 3, 4), 1, "[[0 1 2 3 4 5 6 7]]"}, {lineOf(4, 3, 2, 1, 2, 3, 4), 2, "[[0 1 2 3] [4 5 6 7]]"}, {lineOf(4, 3, 2, 1, 2, 3, 4), 3, "[[0 1 2] [3] [4] [5 6 7]]"},
		{lineOf(4, 3, 2, 1, 2, 3, 4), 4, "[[0 1] [2] [3] [4] [5] [6 7]]"}, {lineOf(4, 3, 2, 1, 2, 3, 4), 5, "[[0] [1] [2] [3] [4] [5] [6] [7]]"},
		// Parts that are stable only together with others: no two tiles of a ring hold together at 2.
		{evenBlock(2, 2, 1), 2, "[[0 1 2 3]]"}, {evenBlock(2, 2, 1), 3, "[[0] [1] [2] [3]]"}, {drawn("o1o1o", "1   1", "o   o", "1   1", "o1o1o"), 2, "[[0 1 2 3 4 5 6 7]]"}, {drawn("o1o1o", "1   1", "o   o", "1   1", "o1o o"), 2, "[[0] [1] [2] [3] [4] [5] [6] [7]]"},
		{evenBlock(3, 3, 1), 2, "[[0 1 2 3 4 5 6 7 8]]"}, {evenBlock(3, 3, 1), 3, "[[0] [1] [2] [3] [4] [5] [6] [7] [8]]"}, {evenBlock(3, 3, 4), 8, "[[0 1 2 3 4 5 6 7 8]]"}, {evenBlock(3, 3, 4), 9, "[[0] [1] [2] [3] [4] [5] [6] [7] [8]]"},
		{blocks, 2, "[[0 1 4 5] [2 3 6 7]]"}, {blocks, 1, "[[0 1 2 3 4 5 6 7]]"}, {drawn("o1o1o1o", "1 1 1 1", "o1o1o1o"), 2, "[[0 1 2 3 4 5 6 7]]"},
		// A part of which the first tile comes after some tiles of another one, and one around another one.
		{drawn("o4o o4o", "4     4", "o o4o4o"), 4, "[[0 4 5] [1 2 3 6 7]]"}, {drawn("o4o4o", "4   4", "o o o", "4   4", "o4o4o"), 3, "[[0 1 2 3 5 6 7 8] [4]]"}, {drawn("o4o4o", "4 1 4", "o1o1o", "4 1 4", "o4o4o"), 5, "[[0 1 2 3 5 6 7 8] [4]]"},
		{drawn("o4o4o", "4 1 4", "o1o1o", "4 1 4", "o4o4o"), 4, "[[0 1 2 3 4 5 6 7 8]]"},
		// Single bonds round a corner.
		{drawn("o o", "4 4", "o4o"), 4, "[[0 1 2 3]]"}, {drawn("o o", "4 4", "o4o"), 5, "[[0] [1] [2] [3]]"}, {drawn("o o", "4 3", "o4o"), 4, "[[0 1 2] [3]]"}, {drawn("o1o", "4 4", "o4o"), 5, "[[0 1 2 3]]"}, {drawn("o o", "4", "o4o"), 1, "[[0 1 2] [3]]"},
		{drawn("o4o4o", "    4", "o4o4o", "4", "o4o4o"), 4, "[[0 1 2 3 4 5 6 7 8]]"}, {drawn("o4o4o", "    3", "o4o4o", "4", "o4o4o"), 4, "[[0 1 2 3 4 5] [6 7 8]]"},
		// What is left of a cut breaks further.
		{drawn("o4o1o4o", "4 4 4 4", "o4o1o4o"), 3, "[[0 1 4 5] [2 3 6 7]]"}, {drawn("o4o1o2o", "4 4 4 2", "o4o1o2o"), 5, "[[0 1 4 5] [2] [3] [6] [7]]"}, {drawn("o2o2o", "2 2 2", "o2o2o"), 4, "[[0 1 2 3 4 5]]"}, {drawn("o2o2o", "2 2 2", "o2o o"), 4, "[[0 1 3 4] [2] [5]]"},
		{evenBlock(64, 1, 2), 2, "[[0 1 2 3 4 5 6 7 8 9 10 11 12 13 14 15 16 17 18 19 20 21 22 23 24 25 26 27 28 29 30 31 32 33 34 35 36 37 38 39 40 41 42 43 44 45 46 47 48 49 50 51 52 53 54 55 56 57 58 59 60 61 62 63]]"},
	}
	for _, c := range cases {
		if parts, code := impl.BreakApart(c.x.set, c.x.a, c.temperature); fmt.Sprint(parts) != c.want || code != impl.OK {
			t.Errorf("BreakApart at %d is %v, %d, not %s with the bonds %v", c.temperature, parts, code, c.want, bondsIn(c.x.set, c.x.a))
		}
	}
}

// TestApartMany has as many tiles as there may be, and more.
func TestApartMany(t *testing.T) {
	for _, x := range []tiling{evenBlock(64, 1, 2), evenBlock(8, 8, 1), ladder(), evenBlock(4, 16, 0)} {
		parts, code := impl.BreakApart(x.set, x.a, 16)
		if len(parts) != 64 || fmt.Sprint(parts[0], parts[63]) != "[0] [63]" || code != impl.OK {
			t.Errorf("BreakApart of 64 tiles at 16 is %v, %d", parts, code)
		}
	}
	groups := drawnGroups(8, 8)
	for temperature, count := range map[int64]int{1: 1, 2: 1, 3: 1, 4: 1, 5: 16, 6: 16, 8: 16, 9: 64} {
		if parts, code := impl.BreakApart(groups.set, groups.a, temperature); len(parts) != count || code != impl.OK {
			t.Errorf("BreakApart of squares at %d is %v, %d, not of %d parts", temperature, parts, code, count)
		}
	}
	for _, x := range drawnLarge() {
		for _, temperature := range []int64{1, 2, 4, 5, 16} {
			if parts, code := impl.BreakApart(x.set, x.a, temperature); len(parts) != 0 || code != impl.ErrFull {
				t.Errorf("BreakApart of %d tiles at %d is %v, %d", len(x.a.Tiles), temperature, parts, code)
			}
		}
	}
}
