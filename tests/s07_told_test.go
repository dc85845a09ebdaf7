package tests

import (
	"fmt"
	"math"
	"slices"
	"testing"

	"loop.example/g01081/impl"
)

// checkTold compares CheckFlow with what it must be, and returns whether the numbers are a flow.
func checkTold(t *testing.T, x tiling, bonds []impl.Bond, pair [2]int64, flow []int64) bool {
	t.Helper()
	want, ok := valueIn(bonds, pair[0], pair[1], flow)
	n, code := impl.CheckFlow(x.set, x.a, pair[0], pair[1], flow)
	if ok && (n != want || code != impl.OK) || !ok && (n != 0 || code != impl.ErrProof) {
		t.Fatalf("CheckFlow of %v for %v is %d, %d, not %d, %t with the bonds %v", flow, pair, n, code, want, ok, bonds)
	}
	return ok
}

// changedFlows are other lists of numbers: with one more or less at each bond, with one number too few and too many, and with extreme numbers.
func changedFlows(flow []int64) [][]int64 {
	var list [][]int64
	for i := range flow {
		for _, n := range []int64{flow[i] + 1, flow[i] - 1, -flow[i], 0, 4, 5, -5, math.MaxInt64, math.MinInt64} {
			changed := slices.Clone(flow)
			changed[i] = n
			list = append(list, changed)
		}
		list = append(list, slices.Delete(slices.Clone(flow), i, i+1))
	}
	longer := append(slices.Clone(flow), 0)
	return append(list, longer, append(longer, 0), append([]int64{0}, flow...), nil, []int64{}, make([]int64, len(flow)), make([]int64, len(flow)+1), make([]int64, 1000))
}

// TestCheckFlow has greatest flows and lists that are nearly flows.
func TestCheckFlow(t *testing.T) {
	right, wrong := 0, 0
	for _, x := range append(drawnSmall(), drawnMedium()...) {
		bonds, count := bondsFor(x)
		for _, pair := range somePairs(count) {
			if count > 5 && (pair[0]+2*pair[1])%11 != 0 {
				continue
			}
			_, flow, _ := flowIn(bonds, count, pair[0], pair[1])
			if !checkTold(t, x, bonds, pair, flow) {
				t.Fatalf("%v is no flow between %v with the bonds %v", flow, pair, bonds)
			}
			for _, changed := range changedFlows(flow) {
				if checkTold(t, x, bonds, pair, changed) {
					right++
				} else {
					wrong++
				}
			}
			backwards := slices.Clone(flow)
			for i := range backwards {
				backwards[i] *= -1
			}
			checkTold(t, x, bonds, pair, backwards)
			checkTold(t, x, bonds, [2]int64{pair[1], pair[0]}, flow)
		}
	}
	if right < 1000 || wrong < 10000 {
		t.Errorf("%d changed flows are flows, and %d are none", right, wrong)
	}
}

// TestAllFlows has all lists of numbers around the strengths of few bonds, for all pairs of tiles.
func TestAllFlows(t *testing.T) {
	values := map[int64]int{}
	for _, x := range []tiling{lineOf(1), lineOf(2, 1), lineOf(1, 0, 2), drawn("o1o", "1 1", "o2o"), drawn("o2o", "2 1", "o1o"), drawn("o1o", "  2", "o2o"), drawn("  o", "  1", "o1o1o", "  1", "  o")} {
		bonds, count := bondsFor(x)
		lists := [][]int64{{}}
		for range bonds {
			var longer [][]int64
			for _, list := range lists {
				for n := int64(-3); n <= 3; n++ {
					longer = append(longer, append(slices.Clone(list), n))
				}
			}
			lists = longer
		}
		for _, flow := range lists {
			for _, pair := range somePairs(count) {
				if checkTold(t, x, bonds, pair, flow) {
					value, _ := valueIn(bonds, pair[0], pair[1], flow)
					values[value]++
				}
			}
		}
	}
	for n := int64(-3); n <= 3; n++ {
		if values[n] == 0 {
			t.Error("no flow has the value", n)
		}
	}
}

// TestToldTable has flows that are known, and lists that fail to be flows in one way each.
func TestToldTable(t *testing.T) {
	// The bonds are {0, 1, 2}, {0, 2, 1}, {1, 3, 1} and {2, 3, 1}.
	square := drawn("o1o", "1 1", "o2o")
	// The bonds are {0, 2, 4}, {1, 2, 4}, {2, 3, 4} and {2, 4, 4}.
	cross := drawn("  o", "  4", "o4o4o", "  4", "  o")
	const most, least = math.MaxInt64, math.MinInt64
	no := int64(impl.ErrProof)
	cases := []struct {
		x     tiling
		pair  [2]int64
		flow  []int64
		value int64
		code  int64
	}{
		{square, [2]int64{0, 3}, []int64{1, 1, 1, 1}, 2, impl.OK}, {square, [2]int64{3, 0}, []int64{1, 1, 1, 1}, -2, impl.OK}, {square, [2]int64{3, 0}, []int64{-1, -1, -1, -1}, 2, impl.OK},
		{square, [2]int64{0, 3}, []int64{0, 0, 0, 0}, 0, impl.OK}, {square, [2]int64{0, 3}, []int64{1, 0, 1, 0}, 1, impl.OK}, {square, [2]int64{0, 1}, []int64{2, 1, -1, 1}, 3, impl.OK},
		{square, [2]int64{0, 1}, []int64{2, 0, 0, 0}, 2, impl.OK}, {square, [2]int64{0, 1}, []int64{-2, 0, 0, 0}, -2, impl.OK},
		// Round in a circle, through x and y or through one of them: back into x and out of y.
		{square, [2]int64{0, 3}, []int64{1, -1, 1, -1}, 0, impl.OK}, {square, [2]int64{0, 3}, []int64{-1, 1, -1, 1}, 0, impl.OK}, {square, [2]int64{0, 2}, []int64{1, -1, 1, -1}, 0, impl.OK},
		{square, [2]int64{0, 1}, []int64{0, 1, -1, 1}, 1, impl.OK}, {square, [2]int64{0, 1}, []int64{2, -1, 1, -1}, 1, impl.OK}, {square, [2]int64{0, 1}, []int64{-2, 1, -1, 1}, -1, impl.OK},
		// One number too few, too many, and none.
		{square, [2]int64{0, 3}, []int64{1, 1, 1}, 0, no}, {square, [2]int64{0, 3}, []int64{1, 1, 1, 1, 0}, 0, no}, {square, [2]int64{0, 3}, nil, 0, no}, {lineOf(0), [2]int64{0, 1}, nil, 0, impl.OK},
		{lineOf(0), [2]int64{0, 1}, []int64{0}, 0, no}, {lineOf(1), [2]int64{0, 1}, []int64{}, 0, no}, {lineOf(1), [2]int64{0, 1}, []int64{0, 0}, 0, no},
		// More than the strength, in either direction.
		{square, [2]int64{0, 1}, []int64{3, 0, 0, 0}, 0, no}, {square, [2]int64{0, 1}, []int64{-3, 0, 0, 0}, 0, no}, {square, [2]int64{0, 3}, []int64{2, 0, 2, 0}, 0, no}, {square, [2]int64{3, 0}, []int64{-2, 0, -2, 0}, 0, no},
		{lineOf(4), [2]int64{0, 1}, []int64{4}, 4, impl.OK}, {lineOf(4), [2]int64{0, 1}, []int64{5}, 0, no}, {lineOf(4), [2]int64{0, 1}, []int64{-4}, -4, impl.OK}, {lineOf(4), [2]int64{0, 1}, []int64{-5}, 0, no},
		// Something is lost or gained at a tile.
		{square, [2]int64{0, 3}, []int64{1, 1, 1, 0}, 0, no}, {square, [2]int64{0, 3}, []int64{1, 1, 0, 1}, 0, no}, {square, [2]int64{0, 3}, []int64{2, 1, 1, 1}, 0, no}, {square, [2]int64{0, 3}, []int64{0, 1, 1, 1}, 0, no},
		{cross, [2]int64{0, 4}, []int64{1, 0, 0, 0}, 0, no}, {cross, [2]int64{0, 4}, []int64{0, 0, 0, 1}, 0, no}, {cross, [2]int64{0, 4}, []int64{1, 1, 0, 2}, 0, no}, {cross, [2]int64{0, 2}, []int64{1, 0, 0, 0}, 1, impl.OK},
		{cross, [2]int64{0, 2}, []int64{1, 0, 0, 1}, 0, no}, {cross, [2]int64{0, 2}, []int64{1, 0, 1, 0}, 0, no}, {cross, [2]int64{0, 2}, []int64{0, 1, 0, 0}, 0, no}, {cross, [2]int64{1, 3}, []int64{0, 4, 4, 0}, 4, impl.OK},
		// Extreme numbers, of which sums would not fit.
		{lineOf(4), [2]int64{0, 1}, []int64{most}, 0, no}, {lineOf(4), [2]int64{0, 1}, []int64{least}, 0, no}, {lineOf(4, 4), [2]int64{0, 2}, []int64{least, least}, 0, no}, {lineOf(4, 4), [2]int64{0, 2}, []int64{most, most}, 0, no},
		{lineOf(4, 4), [2]int64{0, 2}, []int64{1 << 32, 1 << 32}, 0, no}, {lineOf(4, 4), [2]int64{0, 2}, []int64{-1 << 32, -1 << 32}, 0, no}, {lineOf(4, 4), [2]int64{0, 2}, []int64{256, 256}, 0, no},
		{cross, [2]int64{0, 1}, []int64{1 << 62, 1 << 62, -1 << 62, -1 << 62}, 0, no}, {cross, [2]int64{0, 1}, []int64{most, most, -2, 0}, 0, no}, {cross, [2]int64{0, 1}, []int64{least, least, 0, 0}, 0, no},
		{cross, [2]int64{0, 1}, []int64{least, most, -1, 0}, 0, no}, {square, [2]int64{0, 3}, []int64{least, least, least, least}, 0, no}, {square, [2]int64{0, 3}, []int64{1 << 62, 1 << 62, 1 << 62, 1 << 62}, 0, no},
		{square, [2]int64{0, 1}, []int64{least, 0, 0, 0}, 0, no}, {square, [2]int64{0, 1}, []int64{most, 1, -1, 1}, 0, no}, {square, [2]int64{2, 3}, []int64{1, 1, 1, least}, 0, no},
	}
	for _, c := range cases {
		if n, code := impl.CheckFlow(c.x.set, c.x.a, c.pair[0], c.pair[1], c.flow); n != c.value || code != c.code {
			t.Errorf("CheckFlow of %v for %v is %d, %d, not %d, %d with the bonds %v", c.flow, c.pair, n, code, c.value, c.code, bondsIn(c.x.set, c.x.a))
		}
	}
}

// TestToldLarge checks flows through more tiles than those among which cuts are looked for.
func TestToldLarge(t *testing.T) {
	sent := 0
	for _, x := range drawnLarge() {
		bonds, count := bondsFor(x)
		for _, pair := range [][2]int64{{0, int64(count - 1)}, {int64(count - 1), 0}, {int64(count / 2), 3}} {
			flow := make([]int64, len(bonds))
			checkTold(t, x, bonds, pair, flow)
			if way := anyWay(bonds, pair[0], pair[1]); way != nil {
				sendAlong(bonds, flow, way)
				if !checkTold(t, x, bonds, pair, flow) {
					t.Fatalf("%v is no flow along %v", flow, way)
				}
				sent++
			}
			for _, changed := range [][]int64{append(slices.Clone(flow), 0), flow[:max(len(flow), 1)-1], make([]int64, 500)} {
				checkTold(t, x, bonds, pair, changed)
			}
			if len(flow) > 0 {
				flow[len(flow)-1]++
				checkTold(t, x, bonds, pair, flow)
			}
		}
	}
	if sent < 30 {
		t.Error("only so many ways through many tiles:", sent)
	}
	snake := tiling{strongSet(), withinSet(strongSet(), rowsAssembly(impl.Point{X: -60, Y: -60}, 121, 121))}
	flow := make([]int64, 120)
	for i := range flow {
		flow[i] = 4
	}
	n, code := impl.CheckFlow(snake.set, snake.a, 0, 120, flow)
	checkNumber(t, fmt.Sprint("CheckFlow along a line"), n, code, 4)
}

// anyWay is a way from x to y over bonds, and nil if there is none.
func anyWay(bonds []impl.Bond, x, y int64) []int64 {
	before, way := map[int64]int64{x: x}, []int64{y}
	for reached := 0; reached < len(before); {
		reached = len(before)
		for _, bond := range bonds {
			_, hasA := before[bond.A]
			_, hasB := before[bond.B]
			if hasA && !hasB {
				before[bond.B] = bond.A
			} else if hasB && !hasA {
				before[bond.A] = bond.B
			}
		}
	}
	if _, ok := before[y]; !ok {
		return nil
	}
	for way[0] != x {
		way = append([]int64{before[way[0]]}, way...)
	}
	return way
}
