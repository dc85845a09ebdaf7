package tests

import (
	"fmt"
	"math"
	"slices"
	"testing"

	"loop.example/g01081/impl"
)

// checkStable compares IsStable with what it must be.
func checkStable(t *testing.T, x tiling, temperature int64, stable bool, code int64) {
	t.Helper()
	if ok, got := impl.IsStable(x.set, x.a, temperature); ok != stable || got != code {
		t.Fatalf("IsStable of %v at %d is %t, %d, not %t, %d", x, temperature, ok, got, stable, code)
	}
}

func TestIsStable(t *testing.T) {
	counts := map[string]int{}
	for _, x := range append(append(drawnSmall(), drawnMedium()...), drawnLarge()...) {
		bonds, count := bondsFor(x)
		for temperature := int64(1); temperature <= 16; temperature++ {
			if count > 200 && temperature > 5 && temperature < 16 {
				continue
			}
			stable, code := stableIn(bonds, count, temperature)
			checkStable(t, x, temperature, stable, code)
			counts[fmt.Sprint(stable, code, count > 64)]++
		}
	}
	for _, what := range []string{"true 0 false", "false 0 false", "true 0 true", "false 0 true", "false 4 true"} {
		if counts[what] < 10 {
			t.Error("stable, with this code, of many tiles:", what, counts[what])
		}
	}
}

// TestStableTable has the example of chapter 7, and other assemblies of which it is known how much holds them together.
func TestStableTable(t *testing.T) {
	cases := []struct {
		x    tiling
		most int64 // the greatest temperature at which it is stable
	}{
		{drawn("o1o", "1 1", "o2o"), 2}, {tiling{pairSet(), impl.Assembly{}}, 16}, {tiling{pairSet(), assembly(placed(0, 0, 0))}, 16}, {tiling{strongSet(), assembly(placed(-60, 60, 0))}, 16}, {drawn("o"), 16},
		{lineOf(1), 1}, {lineOf(2), 2}, {lineOf(3), 3}, {lineOf(4), 4}, {lineOf(0), 0}, {lineOf(4, 3, 4), 3}, {lineOf(4, 0, 4), 0}, {drawn("o   o"), 0}, {drawn("o", "4", "o"), 4},
		{tiling{pairSet(), assembly(placed(0, 0, 0), placed(1, 0, 1))}, 2}, {tiling{pairSet(), assembly(placed(0, 0, 1), placed(1, 0, 0))}, 0},
		// Round a corner, and on ways to and fro.
		{drawn("o o", "4 4", "o4o"), 4}, {drawn("o o", "4 1", "o4o"), 1}, {drawn("o4o4o", "4   4", "o   o"), 4}, {drawn("o2o1o", "2   2", "o2o2o"), 3}, {drawn("o1o1o", "1   1", "o   o", "1   1", "o1o1o"), 2},
		// Together only: each tile has bonds with several others.
		{evenBlock(2, 2, 1), 2}, {evenBlock(3, 3, 1), 2}, {evenBlock(3, 3, 4), 8}, {evenBlock(2, 2, 4), 8}, {evenBlock(8, 8, 4), 8}, {evenBlock(8, 8, 2), 4}, {evenBlock(2, 32, 3), 6}, {evenBlock(64, 1, 4), 4},
		{drawn("o4o o4o", "4 4 4 4", "o4o1o4o"), 1}, {drawn("o4o1o4o", "4 4 4 4", "o4o1o4o"), 2}, {drawn("o4o3o4o", "4 4 4 4", "o4o4o4o"), 7},
		{drawnBlock(8, 8, func(x, _, dir int64) int64 {
			if x == 3 && dir == impl.DiEast {
				return 1
			}
			return 4
		}), 8},
	}
	for _, c := range cases {
		for temperature := int64(1); temperature <= 16; temperature++ {
			if ok, code := impl.IsStable(c.x.set, c.x.a, temperature); ok != (temperature <= c.most) || code != impl.OK {
				t.Errorf("IsStable of %v at %d is %t, %d, not up to %d", c.x.a, temperature, ok, code, c.most)
			}
		}
	}
}

// TestStableGroups has assemblies of more than 64 tiles, which are put together to 64 groups, to fewer, or to more.
func TestStableGroups(t *testing.T) {
	line := func(firm int) tiling {
		var strengths []int64
		for i := range 64 {
			strengths = append(strengths, 1+3*btoi64(i >= 64-firm))
		}
		return lineOf(strengths...)
	}
	rungs := func(height int64) tiling {
		return drawnBlock(2, height, func(_, _, dir int64) int64 {
			if dir == impl.DiEast {
				return 2
			}
			return 1
		})
	}
	cases := []struct {
		x                   tiling
		temperature, groups int64
		stable              bool
	}{
		// Groups of four tiles, with two bonds of 1 between those next to each other.
		{drawnGroups(16, 16), 1, 1, true}, {drawnGroups(16, 16), 2, 64, true}, {drawnGroups(16, 16), 4, 64, true}, {drawnGroups(16, 16), 5, 256, false}, {drawnGroups(16, 16), 16, 256, false},
		{drawnGroups(26, 10), 1, 1, true}, {drawnGroups(26, 10), 2, 65, false}, {drawnGroups(26, 10), 4, 65, false}, {drawnGroups(26, 8), 4, 52, true}, {drawnGroups(20, 24), 3, 120, false},
		{drawnGroups(15, 16), 2, 64, true}, {drawnGroups(15, 15), 2, 64, true}, {drawnGroups(15, 15), 3, 64, false}, {drawnGroups(17, 15), 2, 72, false},
		// A line of 65 tiles, the last ones of which hold together.
		{line(1), 1, 1, true}, {line(1), 2, 64, false}, {line(1), 4, 64, false}, {line(0), 2, 65, false}, {line(0), 1, 1, true}, {line(2), 4, 63, false}, {line(64), 4, 1, true}, {line(64), 5, 65, false}, {line(63), 4, 2, false}, {line(63), 5, 65, false},
		// Two bonds of 1 do not put rungs together, though they hold them together.
		{rungs(33), 2, 33, true}, {rungs(64), 2, 64, true}, {rungs(64), 3, 128, false}, {rungs(65), 2, 65, false}, {rungs(65), 1, 1, true}, {rungs(121), 2, 121, false},
		{evenBlock(5, 13, 4), 4, 1, true}, {evenBlock(5, 13, 4), 5, 65, false}, {evenBlock(25, 20, 4), 4, 1, true}, {evenBlock(25, 20, 3), 4, 500, false}, {evenBlock(25, 20, 3), 3, 1, true}, {evenBlock(25, 20, 1), 1, 1, true},
		{evenBlock(8, 8, 3), 4, 64, true}, {evenBlock(8, 8, 3), 7, 64, false}, {evenBlock(8, 8, 3), 6, 64, true}, {evenBlock(13, 5, 3), 4, 65, false}, {evenBlock(5, 13, 0), 1, 65, false}, {evenBlock(8, 8, 0), 1, 64, false},
	}
	for _, c := range cases {
		code := int64(impl.OK)
		if c.groups > 64 {
			code = impl.ErrFull
		}
		bonds, count := bondsFor(c.x)
		if groups := firmIn(bonds, count, c.temperature); int64(len(groups)) != c.groups {
			t.Fatalf("%d groups of %d tiles at %d, not %d", len(groups), count, c.temperature, c.groups)
		}
		if ok, got := impl.IsStable(c.x.set, c.x.a, c.temperature); ok != c.stable || got != code {
			t.Errorf("IsStable of %d tiles in %d groups at %d is %t, %d, not %t, %d", count, c.groups, c.temperature, ok, got, c.stable, code)
		}
	}
}

func btoi64(b bool) int64 { return int64(btoi(b)) }

// wrongTemperatures are numbers that are no temperatures.
func wrongTemperatures() []int64 {
	return slices.DeleteFunc(append(edgeNumbers(), 16, 17, 18, 32, 256+1, 1<<32+2, math.MinInt64+2), func(n int64) bool { return n >= 1 && n <= 16 })
}

// TestWrongTemperatures says that numbers beyond the limits are ErrRange, also if there are too many tiles.
func TestWrongTemperatures(t *testing.T) {
	list := append(append(knownDrawings(), drawnMedium()[:6]...), drawnLarge()...)
	for _, x := range list {
		for _, n := range wrongTemperatures() {
			if ok, code := impl.IsStable(x.set, x.a, n); ok || code != impl.ErrRange {
				t.Errorf("IsStable of %d tiles at %d is %t, %d", len(x.a.Tiles), n, ok, code)
			}
			if parts, code := impl.BreakApart(x.set, x.a, n); len(parts) != 0 || code != impl.ErrRange {
				t.Errorf("BreakApart of %d tiles at %d is %v, %d", len(x.a.Tiles), n, parts, code)
			}
		}
		for _, n := range []int64{1, 16} {
			_, code := impl.IsStable(x.set, x.a, n)
			_, partsCode := impl.BreakApart(x.set, x.a, n)
			if code == impl.ErrRange || partsCode == impl.ErrRange {
				t.Errorf("%d is no temperature for %d tiles: %d, %d", n, len(x.a.Tiles), code, partsCode)
			}
		}
	}
}
