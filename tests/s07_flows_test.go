package tests

import (
	"fmt"
	"slices"
	"testing"

	"loop.example/g01081/impl"
)

// checkGreatest compares FlowBetween of two tiles with what it must be.
func checkGreatest(t *testing.T, x tiling, pair [2]int64, value int64, flow []int64) {
	t.Helper()
	n, got, code := impl.FlowBetween(x.set, x.a, pair[0], pair[1])
	if n != value || !slices.Equal(got, flow) || code != impl.OK {
		t.Fatalf("FlowBetween of %v in %v is %d, %v, %d, not %d, %v", pair, x, n, got, code, value, flow)
	}
}

func TestFlowBetween(t *testing.T) {
	none := 0
	for _, x := range append(drawnSmall(), drawnMedium()...) {
		bonds, count := bondsFor(x)
		for _, pair := range somePairs(count) {
			value, flow, _ := flowIn(bonds, count, pair[0], pair[1])
			checkGreatest(t, x, pair, value, flow)
			none += btoi(value == 0)
		}
	}
	if none < 100 {
		t.Error("nothing flows only so many times:", none)
	}
}

// TestFlowReturns has units that take back what flows over a bond, some of them over several bonds.
func TestFlowReturns(t *testing.T) {
	returns, several := 0, 0
	for n := range uint64(200) {
		for _, strengths := range [][]int64{{1, 1, 1, 0}, {1, 1, 1, 1, 0}, {2, 2, 0, 1, 4}} {
			x := drawnWith(n, 4+int64(n%2), 4+int64(n%2), strengths...)
			bonds, count := bondsFor(x)
			for _, pair := range somePairs(count) {
				value, flow, back := flowIn(bonds, count, pair[0], pair[1])
				checkGreatest(t, x, pair, value, flow)
				returns += btoi(back > 0)
				several += btoi(back > 1)
			}
		}
	}
	if returns < 100 || several < 10 {
		t.Errorf("units take something back %d times, and over several bonds %d times", returns, several)
	}
}

// TestFlowTable has the example of chapter 7, and other flows that are known.
func TestFlowTable(t *testing.T) {
	// The first way of {4, 5} is 4, 3, 6, 5, and the second one comes back from 6 to 3: 4, 7, 6, 3, 1, 0, 2, 5.
	returns := drawn("o1o1o", "1 1 1", "o o1o", "1 1 1", "o1o")
	// The tile 4 is reached from 3 alone, by 1 or by 2.
	tail := drawn("o1o1o", "1 1", "o1o")
	block := drawn("o1o1o", "1 1 1", "o1o1o")
	cases := []struct {
		x     tiling
		pair  [2]int64
		value int64
		flow  string
	}{
		{drawn("o1o", "1 1", "o2o"), [2]int64{0, 3}, 2, "[1 1 1 1]"}, {drawn("o1o", "1 1", "o2o"), [2]int64{3, 0}, 2, "[-1 -1 -1 -1]"},
		{drawn("o1o", "1 1", "o2o"), [2]int64{0, 1}, 3, "[2 1 -1 1]"}, {drawn("o1o", "1 1", "o2o"), [2]int64{1, 0}, 3, "[-2 -1 1 -1]"},
		{lineOf(3), [2]int64{0, 1}, 3, "[3]"}, {lineOf(3), [2]int64{1, 0}, 3, "[-3]"}, {lineOf(0), [2]int64{0, 1}, 0, "[]"}, {drawn("o", "4", "o"), [2]int64{1, 0}, 4, "[-4]"},
		{lineOf(4, 1, 2), [2]int64{0, 3}, 1, "[1 1 1]"}, {lineOf(4, 1, 2), [2]int64{2, 3}, 2, "[0 0 2]"}, {lineOf(4, 1, 2), [2]int64{1, 0}, 4, "[-4 0 0]"}, {lineOf(4, 0, 2), [2]int64{0, 3}, 0, "[0 0]"},
		{lineOf(4, 0, 2), [2]int64{3, 2}, 2, "[0 -2]"},
		// Several shortest ways: over 1, in both directions.
		{tail, [2]int64{0, 4}, 1, "[1 0 1 0 1]"}, {tail, [2]int64{4, 0}, 1, "[-1 0 -1 0 -1]"}, {drawn("o1o1o", "2 2", "o2o"), [2]int64{0, 4}, 1, "[1 0 1 0 1]"},
		// {0, 1}, {0, 3}, {1, 2}, {1, 4}, {2, 5}, {3, 4}, {4, 5}: the way 0, 1, 2, 5 comes before 0, 1, 4, 5.
		{block, [2]int64{0, 5}, 2, "[1 1 1 0 1 1 1]"}, {block, [2]int64{5, 0}, 2, "[-1 -1 -1 0 -1 -1 -1]"}, {block, [2]int64{2, 3}, 2, "[-1 1 -1 0 1 -1 -1]"}, {block, [2]int64{1, 4}, 3, "[-1 1 1 1 1 1 -1]"},
		{drawn("o1o4o", "4 4 1", "o1o1o"), [2]int64{0, 5}, 2, "[1 1 1 0 1 1 1]"},
		// The way 0, 1, 2, 5 is the first one, though 0, 1, 4 and 0, 3, 4 end with more room.
		{drawn("o2o2o", "2 2 2", "o2o2o"), [2]int64{0, 5}, 4, "[2 2 2 0 2 2 2]"}, {drawn("o4o4o", "4 4 1", "o4o4o"), [2]int64{0, 5}, 5, "[4 1 1 3 1 1 4]"},
		// Longer ways, when the shorter ones are full.
		{drawn("o1o1o", "1   1", "o1o1o"), [2]int64{0, 1}, 2, "[1 1 -1 -1 1 1]"}, {drawn("o1o1o", "1   1", "o2o1o"), [2]int64{0, 1}, 3, "[2 1 -1 -1 1 1]"},
		{returns, [2]int64{4, 5}, 2, "[-1 1 -1 1 -1 0 1 -1 -1]"},
		{evenBlock(3, 3, 1), [2]int64{0, 8}, 2, "[1 1 1 0 1 1 0 0 1 1 0 1]"},
	}
	for _, c := range cases {
		n, flow, code := impl.FlowBetween(c.x.set, c.x.a, c.pair[0], c.pair[1])
		if n != c.value || fmt.Sprint(flow) != c.flow || code != impl.OK {
			t.Errorf("FlowBetween of %v is %d, %v, %d, not %d, %s with the bonds %v", c.pair, n, flow, code, c.value, c.flow, bondsIn(c.x.set, c.x.a))
		}
		bonds, count := bondsFor(c.x)
		if value, flow, _ := flowIn(bonds, count, c.pair[0], c.pair[1]); value != c.value || fmt.Sprint(flow) != c.flow {
			t.Errorf("the flow of %v should be %d, %v, not %d, %s with the bonds %v", c.pair, value, flow, c.value, c.flow, bonds)
		}
	}
	if _, _, back := flowIn(bondsIn(returns.set, returns.a), len(returns.a.Tiles), 4, 5); back != 1 {
		t.Error("no unit takes back what flows over a bond")
	}
}

// TestFlowMost has as many tiles, and as much that flows, as there may be.
func TestFlowMost(t *testing.T) {
	line := evenBlock(64, 1, 3)
	var there, back []int64
	for range 63 {
		there, back = append(there, 3), append(back, -3)
	}
	checkGreatest(t, line, [2]int64{0, 63}, 3, there)
	checkGreatest(t, line, [2]int64{63, 0}, 3, back)
	checkGreatest(t, evenBlock(4, 16, 0), [2]int64{0, 63}, 0, nil)
	wide := evenBlock(5, 5, 4)
	bonds, count := bondsFor(wide)
	value, flow, _ := flowIn(bonds, count, 11, 13)
	checkGreatest(t, wide, [2]int64{11, 13}, 16, flow)
	if value != 16 {
		t.Error("only so much flows:", value)
	}
}
