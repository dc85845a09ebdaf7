package tests

import (
	"slices"
	"testing"

	"loop.example/g01081/impl"
)

// TestGreatestFlow says that the greatest flow has the strength of the weakest cut that separates, and that the flow and the cut that are told prove it.
func TestGreatestFlow(t *testing.T) {
	for _, x := range append(drawnSmall(), drawnMedium()...) {
		for _, pair := range somePairs(len(x.a.Tiles)) {
			least, _ := impl.Connectivity(x.set, x.a, pair[0], pair[1])
			part, _ := impl.SeparatingPart(x.set, x.a, pair[0], pair[1])
			greatest, flow, _ := impl.FlowBetween(x.set, x.a, pair[0], pair[1])
			cut, code := impl.CutStrength(x.set, x.a, part)
			value, flowCode := impl.CheckFlow(x.set, x.a, pair[0], pair[1], flow)
			if greatest != least || cut != least || value != least || code != impl.OK || flowCode != impl.OK {
				t.Fatalf("%v: %d flows, %d is told, the least strength is %d, and %v has %d in %v", pair, greatest, value, least, part, cut, x)
			}
			if slices.Contains(part, pair[0]) || !slices.Contains(part, pair[1]) {
				t.Fatalf("%v does not separate %v in %v", part, pair, x)
			}
		}
	}
}

// TestTurnedFlow says that a flow is one in the other direction, too, with its value turned, and so is what flows against it.
func TestTurnedFlow(t *testing.T) {
	for _, x := range drawnSmall() {
		for _, pair := range somePairs(len(x.a.Tiles)) {
			greatest, flow, _ := impl.FlowBetween(x.set, x.a, pair[0], pair[1])
			there, code := impl.CheckFlow(x.set, x.a, pair[1], pair[0], flow)
			for i := range flow {
				flow[i] *= -1
			}
			back, backCode := impl.CheckFlow(x.set, x.a, pair[1], pair[0], flow)
			if there != -greatest || back != greatest || code != impl.OK || backCode != impl.OK {
				t.Fatalf("%v: %d flows, %d, %d and %d, %d in %v", pair, greatest, there, code, back, backCode, x)
			}
		}
	}
}

// TestNoGreaterFlow says that no flow is greater than any cut that separates.
func TestNoGreaterFlow(t *testing.T) {
	accepted := 0
	for n, x := range drawnSmall() {
		bonds, count := bondsFor(x)
		if count < 2 || len(bonds) > 9 {
			continue
		}
		seed := uint64(n)
		for range 400 {
			pair := [2]int64{nextNumber(&seed, 6) % int64(count), 0}
			pair[1] = (pair[0] + 1 + nextNumber(&seed, 6)%int64(count-1)) % int64(count)
			flow := make([]int64, len(bonds))
			for i := range flow {
				flow[i] = nextNumber(&seed, 6)%3 - 1
			}
			value, code := impl.CheckFlow(x.set, x.a, pair[0], pair[1], flow)
			if code != impl.OK {
				continue
			}
			accepted += btoi(value > 0)
			for m, strength := range cutsIn(bonds, count) {
				if m>>pair[0]&1 == 0 && m>>pair[1]&1 == 1 && strength < value {
					t.Fatalf("%v has the value %d for %v, and %v has %d in %v", flow, value, pair, partIn(m), strength, x)
				}
			}
		}
	}
	if accepted < 300 {
		t.Error("only so many drawn lists are flows from x to y:", accepted)
	}
}

// TestWeakestOfAll says that the weakest cut is as weak as the weakest connection of the place 0, and as that of any two tiles.
func TestWeakestOfAll(t *testing.T) {
	for _, x := range append(drawnSmall(), drawnMedium()[:12]...) {
		count := int64(len(x.a.Tiles))
		if count < 2 {
			continue
		}
		ofFirst, ofAll := int64(99), int64(99)
		for i := range count {
			for j := range i {
				n, _ := impl.Connectivity(x.set, x.a, j, i)
				if j == 0 {
					ofFirst = min(ofFirst, n)
				}
				ofAll = min(ofAll, n)
			}
		}
		least, part, _ := impl.WeakestCut(x.set, x.a)
		cut, code := impl.CutStrength(x.set, x.a, part)
		if least != ofFirst || least != ofAll || cut != least || code != impl.OK {
			t.Fatalf("WeakestCut is %d, %v with %d, and connections have %d and %d in %v", least, part, cut, ofFirst, ofAll, x)
		}
		for temperature := int64(1); temperature <= 16; temperature++ {
			if ok, code := impl.IsStable(x.set, x.a, temperature); ok != (least >= temperature) || code != impl.OK {
				t.Fatalf("IsStable at %d is %t, %d, and WeakestCut %d in %v", temperature, ok, code, least, x)
			}
		}
	}
}

// checkStableParts says that all tiles are in one stable part each, and how tiles of a part and of two parts are connected.
func checkStableParts(t *testing.T, x tiling, temperature int64) {
	t.Helper()
	parts, _ := impl.BreakApart(x.set, x.a, temperature)
	var places []int64
	for i, part := range parts {
		sub, _ := impl.SubAssembly(x.a, part)
		if ok, code := impl.IsStable(x.set, sub, temperature); !ok || code != impl.OK {
			t.Fatalf("the part %v at %d is not stable: %d in %v", part, temperature, code, x)
		}
		if i > 0 && part[0] <= parts[i-1][0] {
			t.Fatalf("the parts %v at %d are not in their order in %v", parts, temperature, x)
		}
		for _, other := range parts[:i] {
			joined := append(slices.Clone(part), other...)
			slices.Sort(joined)
			both, _ := impl.SubAssembly(x.a, joined)
			if ok, code := impl.IsStable(x.set, both, temperature); ok || code != impl.OK {
				t.Fatalf("the parts %v and %v at %d are stable together: %d in %v", part, other, temperature, code, x)
			}
		}
		places = append(places, part...)
	}
	slices.Sort(places)
	if !slices.Equal(places, allPlaces(x.a)) {
		t.Fatalf("the stable parts %v at %d do not have each tile once in %v", parts, temperature, x)
	}
	if ok, _ := impl.IsStable(x.set, x.a, temperature); ok != (len(parts) < 2) {
		t.Fatalf("IsStable at %d is %t, and BreakApart %v in %v", temperature, ok, parts, x)
	}
}

// TestStableParts says what holds for stable parts, and that at a greater temperature they break further.
func TestStableParts(t *testing.T) {
	for _, x := range append(drawnSmall(), drawnMedium()...) {
		if len(x.a.Tiles) > 30 {
			continue
		}
		before := [][]int64{allPlaces(x.a)}
		for temperature := int64(1); temperature <= 16; temperature++ {
			checkStableParts(t, x, temperature)
			parts, _ := impl.BreakApart(x.set, x.a, temperature)
			for _, part := range parts {
				within := slices.ContainsFunc(before, func(greater []int64) bool { return slices.Contains(greater, part[0]) && containsAll(greater, part) })
				if !within {
					t.Fatalf("the part %v at %d is in none of %v in %v", part, temperature, before, x)
				}
			}
			before = parts
		}
	}
}

func containsAll(list, part []int64) bool {
	return !slices.ContainsFunc(part, func(place int64) bool { return !slices.Contains(list, place) })
}

// TestStableAtOne says that at the temperature 1 the stable parts are those that are connected by bonds.
func TestStableAtOne(t *testing.T) {
	for _, x := range append(append(drawnSmall(), drawnMedium()...), smallTilings()...) {
		if len(x.a.Tiles) > 64 {
			continue
		}
		bonded, _ := impl.BondedParts(x.set, x.a)
		checkApart(t, x, 1, bonded)
		checkStable(t, x, 1, len(bonded) < 2, impl.OK)
	}
}
