package tests

import (
	"fmt"
	"testing"

	"loop.example/g01081/impl"
)

// checkStabilityCodes calls each function of chapter 7 that has two places: all return zero values, the first three with one code, and CheckFlow with another one.
func checkStabilityCodes(t *testing.T, what string, x tiling, pair [2]int64, flow []int64, ends, told int64) {
	t.Helper()
	if n, code := impl.Connectivity(x.set, x.a, pair[0], pair[1]); n != 0 || code != ends {
		t.Errorf("%s: Connectivity of %v is %d, %d", what, pair, n, code)
	}
	if part, code := impl.SeparatingPart(x.set, x.a, pair[0], pair[1]); len(part) != 0 || code != ends {
		t.Errorf("%s: SeparatingPart of %v is %v, %d", what, pair, part, code)
	}
	if n, flow, code := impl.FlowBetween(x.set, x.a, pair[0], pair[1]); n != 0 || len(flow) != 0 || code != ends {
		t.Errorf("%s: FlowBetween of %v is %d, %v, %d", what, pair, n, flow, code)
	}
	if n, code := impl.CheckFlow(x.set, x.a, pair[0], pair[1], flow); n != 0 || code != told {
		t.Errorf("%s: CheckFlow of %v for %v is %d, %d", what, flow, pair, n, code)
	}
}

// checkStabilityInvalid calls each function with a set and an assembly that are not valid together: all return ErrInvalid and zero values.
func checkStabilityInvalid(t *testing.T, why string, x tiling) {
	t.Helper()
	flows := [][]int64{nil, {0}, {1, 1}, {1 << 62, -1 << 63, 1<<63 - 1}}
	for i, pair := range [][2]int64{{0, 1}, {0, 0}, {-1, 1 << 62}, {2, 500}, {-1 << 63, 1<<63 - 1}} {
		checkStabilityCodes(t, why, x, pair, flows[i%len(flows)], impl.ErrInvalid, impl.ErrInvalid)
	}
	if n, part, code := impl.WeakestCut(x.set, x.a); n != 0 || len(part) != 0 || code != impl.ErrInvalid {
		t.Errorf("%s: WeakestCut is %d, %v, %d", why, n, part, code)
	}
	for _, temperature := range []int64{1, 2, 16, 0, 17, -1, -1 << 63, 1<<63 - 1} {
		if ok, code := impl.IsStable(x.set, x.a, temperature); ok || code != impl.ErrInvalid {
			t.Errorf("%s: IsStable at %d is %t, %d", why, temperature, ok, code)
		}
		if parts, code := impl.BreakApart(x.set, x.a, temperature); len(parts) != 0 || code != impl.ErrInvalid {
			t.Errorf("%s: BreakApart at %d is %v, %d", why, temperature, parts, code)
		}
	}
}

// TestStabilityInvalid has invalid sets, assemblies without the form of one, and such with a tile that the set does not have.
func TestStabilityInvalid(t *testing.T) {
	for _, faulty := range invalidSets() {
		for _, a := range []impl.Assembly{{}, assembly(placed(0, 0, 0)), assembly(placed(0, 0, 0), placed(1, 0, 1), placed(0, 1, 2))} {
			checkStabilityInvalid(t, faulty.why, tiling{faulty.set, a})
		}
	}
	for _, faulty := range unformedAssemblies() {
		checkStabilityInvalid(t, faulty.why, tiling{countedSet("g", 3, 160), faulty.assembly})
	}
	for _, count := range []int{1, 2, 3, 159} {
		set := countedSet("g", 2, count)
		for i := range plainAssembly().Tiles {
			a := withinSet(set, plainAssembly())
			a.Tiles[i].Tile = int64(count)
			checkStabilityInvalid(t, "a tile that the set does not have", tiling{set, a})
		}
	}
	large := withinSet(strongSet(), rowsAssembly(impl.Point{X: -12, Y: -10}, 25, 500))
	large.Tiles[499].Tile = 1
	checkStabilityInvalid(t, "500 tiles, the last of which the set does not have", tiling{strongSet(), large})
}

// TestWrongPlaces says that places beyond the assembly and equal ones are ErrRange, also if there are too many tiles or the numbers are no flow.
func TestWrongPlaces(t *testing.T) {
	list := []tiling{{pairSet(), impl.Assembly{}}, drawn("o"), lineOf(1), lineOf(0), drawn("o1o", "1 1", "o2o"), evenBlock(8, 8, 1), evenBlock(5, 13, 1), evenBlock(25, 20, 4)}
	for _, x := range list {
		bonds, count := bondsFor(x)
		for i, pair := range wrongPairs(count) {
			flow := [][]int64{nil, make([]int64, len(bonds)), make([]int64, len(bonds)+1)}[i%3]
			checkStabilityCodes(t, fmt.Sprint(count, " tiles"), x, pair, flow, impl.ErrRange, impl.ErrRange)
		}
	}
}

// TestTooManyTiles says that more than 64 tiles are ErrFull for right places, but not for CheckFlow.
func TestTooManyTiles(t *testing.T) {
	for _, x := range append(drawnLarge(), evenBlock(1, 65, 4)) {
		bonds, count := bondsFor(x)
		last := int64(count - 1)
		for _, pair := range [][2]int64{{0, 1}, {0, last}, {last, 0}, {last, last - 1}, {64, 63}} {
			flow := make([]int64, len(bonds)+1)
			checkStabilityCodes(t, fmt.Sprint(count, " tiles"), x, pair, flow, impl.ErrFull, impl.ErrProof)
			if n, code := impl.CheckFlow(x.set, x.a, pair[0], pair[1], flow[1:]); n != 0 || code != impl.OK {
				t.Errorf("CheckFlow of nothing for %v of %d tiles is %d, %d", pair, count, n, code)
			}
		}
	}
}

// TestRightPlaces says that all different places of at most 64 tiles are right, also the first one and the last one.
func TestRightPlaces(t *testing.T) {
	for _, x := range []tiling{lineOf(0), lineOf(1), drawn("o1o", "1 1", "o2o"), evenBlock(8, 8, 1), evenBlock(64, 1, 1), evenBlock(7, 9, 4)} {
		bonds, count := bondsFor(x)
		for i := range int64(count) {
			for _, pair := range [][2]int64{{0, i}, {i, 0}, {int64(count - 1), i}, {i, int64(count - 1)}} {
				if pair[0] == pair[1] {
					continue
				}
				_, code := impl.Connectivity(x.set, x.a, pair[0], pair[1])
				_, partCode := impl.SeparatingPart(x.set, x.a, pair[0], pair[1])
				_, _, flowCode := impl.FlowBetween(x.set, x.a, pair[0], pair[1])
				_, toldCode := impl.CheckFlow(x.set, x.a, pair[0], pair[1], make([]int64, len(bonds)))
				if code != impl.OK || partCode != impl.OK || flowCode != impl.OK || toldCode != impl.OK {
					t.Errorf("the codes of %v of %d tiles are %d, %d, %d and %d", pair, count, code, partCode, flowCode, toldCode)
				}
			}
		}
	}
}
