package tests

import (
	"fmt"
	"slices"
	"testing"

	"loop.example/g01081/impl"
)

// roomyTiling is an equal tiling whose slices have unused capacity.
func roomyTiling(x tiling) tiling { return tiling{roomySet(x.set), roomyAssembly(x.a)} }

// argumentTilings are tilings with few and many tiles, with and without unused capacity, and sets and assemblies that are not valid together.
func argumentTilings() []tiling {
	var list []tiling
	for i, x := range append(drawnSmall(), drawnMedium()...) {
		if i%5 == 0 {
			list = append(list, x, roomyTiling(x))
		}
	}
	for i, x := range drawnLarge() {
		if i%6 == 0 {
			list = append(list, roomyTiling(x))
		}
	}
	for i, a := range bondAssemblies() {
		sets := bondSets()
		if i%4 == 0 {
			list = append(list, tiling{sets[i/4%len(sets)], a})
		}
	}
	return list
}

// copyTiling is an equal tiling in other memory.
func copyTiling(x tiling) tiling { return tiling{copySet(x.set), copyAssembly(x.a)} }

// argumentPairs are right and wrong places.
func argumentPairs(count int) [][2]int64 {
	last := int64(count - 1)
	return [][2]int64{{0, 1}, {1, 0}, {0, last}, {last, last / 2}, {last, 0}, {2, 2}, {-1, 0}, {0, last + 1}}
}

// argumentFlows are flows and lists that are none, in memory with unused capacity.
func argumentFlows(x tiling, pair [2]int64) [][]int64 {
	_, flow, _ := impl.FlowBetween(x.set, x.a, pair[0], pair[1])
	var list [][]int64
	for _, numbers := range [][]int64{flow, make([]int64, len(flow)), append(slices.Clone(flow), 1), {5}, {-1 << 63, 1<<63 - 1}} {
		list = append(list, append(slices.Clone(numbers), 0, 1, 77, -1)[:len(numbers)])
	}
	return list
}

// pairFlows are lists of numbers for some pairs of places.
type pairFlows struct {
	pair  [2]int64
	flows [][]int64
}

func argumentPairFlows(x tiling) []pairFlows {
	var list []pairFlows
	for _, pair := range argumentPairs(len(x.a.Tiles)) {
		list = append(list, pairFlows{pair, argumentFlows(x, pair)})
	}
	return list
}

// stabilityCalls are calls of every function of chapter 7; each returns a text of its results.
func stabilityCalls(x tiling, told []pairFlows) []func() string {
	var calls []func() string
	add := func(call func() string) { calls = append(calls, call) }
	for _, some := range told {
		a, b := some.pair[0], some.pair[1]
		add(func() string { return fmt.Sprint(impl.Connectivity(x.set, x.a, a, b)) })
		add(func() string { return fmt.Sprint(impl.SeparatingPart(x.set, x.a, a, b)) })
		add(func() string { return fmt.Sprint(impl.FlowBetween(x.set, x.a, a, b)) })
		for _, flow := range some.flows {
			add(func() string { return fmt.Sprint(impl.CheckFlow(x.set, x.a, a, b, flow)) })
		}
	}
	add(func() string { return fmt.Sprint(impl.WeakestCut(x.set, x.a)) })
	for _, temperature := range []int64{1, 2, 3, 5, 16, 0, 17, -1 << 63} {
		add(func() string { return fmt.Sprint(impl.IsStable(x.set, x.a, temperature)) })
		add(func() string { return fmt.Sprint(impl.BreakApart(x.set, x.a, temperature)) })
	}
	return calls
}

// TestStabilityPure makes all calls again, also with equal arguments in other memory.
func TestStabilityPure(t *testing.T) {
	var calls, copies []func() string
	for _, x := range argumentTilings() {
		calls = append(calls, stabilityCalls(x, argumentPairFlows(x))...)
		copies = append(copies, stabilityCalls(copyTiling(x), argumentPairFlows(copyTiling(x)))...)
	}
	checkPure(t, calls, copies)
}

// TestStabilityUnchanged checks after each call that no set, no assembly and no flow has changed, not even in its unused capacity.
func TestStabilityUnchanged(t *testing.T) {
	for _, x := range argumentTilings() {
		told := argumentPairFlows(x)
		var flows [][]int64
		for _, some := range told {
			flows = append(flows, some.flows...)
		}
		setKept, tilesKept, flowsKept := watch(x.set), watchTiles(x.a), watchLists(flows)
		for i, call := range stabilityCalls(x, told) {
			call()
			if !setKept() || !tilesKept() || !flowsKept() {
				t.Fatalf("call %d changed %v or one of %v", i, x, flows)
			}
		}
	}
}

// stabilitySlices are calls of each function with slices in its results; each returns these slices and a text of all.
func stabilitySlices(x tiling, pair [2]int64, temperature int64) []func() ([]piece, string) {
	return []func() ([]piece, string){
		func() ([]piece, string) {
			part, code := impl.SeparatingPart(x.set, x.a, pair[0], pair[1])
			return []piece{pieceOf(part, 77)}, fmt.Sprint(part, code)
		},
		func() ([]piece, string) {
			n, flow, code := impl.FlowBetween(x.set, x.a, pair[0], pair[1])
			return []piece{pieceOf(flow, 77)}, fmt.Sprint(n, flow, code)
		},
		func() ([]piece, string) {
			n, part, code := impl.WeakestCut(x.set, x.a)
			return []piece{pieceOf(part, 77)}, fmt.Sprint(n, part, code)
		},
		func() ([]piece, string) {
			parts, code := impl.BreakApart(x.set, x.a, temperature)
			return listPieces(parts), fmt.Sprint(parts, code)
		},
	}
}

// TestStabilitySharesNoMemory writes over each slice of a result, with its unused capacity: no argument and no other slice may change, and the call must return the same again.
func TestStabilitySharesNoMemory(t *testing.T) {
	sizes := map[int]int{}
	for i, x := range argumentTilings() {
		setKept, tilesKept := watch(x.set), watchTiles(x.a)
		unchanged := func() bool { return setKept() && tilesKept() }
		for j, pair := range argumentPairs(len(x.a.Tiles)) {
			for k, call := range stabilitySlices(x, pair, int64(j+1)) {
				pieces, want := call()
				what := fmt.Sprintf("call %d with tiling %d, %v and %d", k, i, pair, j+1)
				checkPieces(t, what, pieces, unchanged)
				for _, p := range pieces {
					p.write()
				}
				if _, got := call(); got != want {
					t.Fatalf("%s returned %s and then %s", what, want, got)
				}
				sizes[len(pieces)]++
			}
		}
	}
	for _, n := range []int{1, 2, 3, 4, 5, 6, 10, 65} {
		if sizes[n] == 0 {
			t.Error("no result has so many slices:", n)
		}
	}
}
