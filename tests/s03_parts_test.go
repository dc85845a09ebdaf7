package tests

import (
	"fmt"
	"slices"
	"testing"

	"loop.example/g01081/impl"
)

// connectedParts says what PartsOf must return: tiles next to each other take the lesser one of their numbers until all agree.
func connectedParts(a impl.Assembly) []impl.Assembly {
	numbers := make([]int, len(a.Tiles))
	places := map[impl.Point]int{}
	for i, x := range a.Tiles {
		numbers[i] = i
		places[x.At] = i
	}
	for changed := true; changed; {
		changed = false
		for i, x := range a.Tiles {
			for dir := range int64(4) {
				step := stepOf(dir)
				j, ok := places[impl.Point{X: x.At.X + step.X, Y: x.At.Y + step.Y}]
				if ok && numbers[j] < numbers[i] {
					numbers[i] = numbers[j]
					changed = true
				}
			}
		}
	}
	var parts []impl.Assembly
	for first := range a.Tiles {
		var part impl.Assembly
		for i, x := range a.Tiles {
			if numbers[i] == first {
				part.Tiles = append(part.Tiles, x)
			}
		}
		if len(part.Tiles) > 0 {
			parts = append(parts, part)
		}
	}
	return parts
}

func checkParts(t *testing.T, a impl.Assembly) {
	t.Helper()
	want := connectedParts(a)
	if got := impl.PartsOf(a); !slices.EqualFunc(got, want, equalAssemblies) {
		t.Fatalf("PartsOf(%v) is %v, not %v", a, got, want)
	}
}

func TestPartsOf(t *testing.T) {
	for _, a := range formedAssemblies() {
		checkParts(t, a)
	}
	for _, a := range gridAssemblies(3, 4, 1) {
		checkParts(t, a)
	}
	for n := range uint64(500) {
		checkParts(t, drawAssembly(1000+n))
	}
}

// TestPartsOfCounts has assemblies of which it is known how many tiles each part has.
func TestPartsOfCounts(t *testing.T) {
	ring := assembly(placed(0, 0, 1), placed(1, 0, 1), placed(2, 0, 1), placed(0, 1, 1), placed(2, 1, 1), placed(0, 2, 1), placed(1, 2, 1), placed(2, 2, 1))
	cases := []struct {
		a     impl.Assembly
		sizes []int
	}{
		{impl.Assembly{}, nil}, {impl.Assembly{Tiles: []impl.Placed{}}, nil}, {assembly(placed(0, 0, 0)), []int{1}},
		{assembly(placed(0, 0, 1), placed(1, 0, 2), placed(3, 0, 2)), []int{2, 1}},
		{assembly(placed(0, 0, 1), placed(2, 0, 2), placed(3, 0, 2)), []int{1, 2}},
		{assembly(placed(0, 0, 1), placed(0, 1, 1)), []int{2}},
		{assembly(placed(0, 0, 1), placed(0, 2, 1)), []int{1, 1}},
		{assembly(placed(0, 0, 1), placed(1, 1, 1)), []int{1, 1}},
		{assembly(placed(1, 0, 1), placed(0, 1, 1)), []int{1, 1}},
		{assembly(placed(0, 0, 1), placed(1, 1, 1), placed(2, 2, 1)), []int{1, 1, 1}},
		{assembly(placed(1, 0, 1), placed(0, 1, 1), placed(1, 1, 1)), []int{3}},
		{assembly(placed(0, 0, 1), placed(2, 0, 1), placed(0, 1, 1), placed(1, 1, 1), placed(2, 1, 1)), []int{5}},
		{assembly(placed(60, 0, 1), placed(-60, 1, 1)), []int{1, 1}},
		{assembly(placed(-60, 0, 1), placed(60, 0, 1)), []int{1, 1}},
		{assembly(placed(0, -60, 1), placed(0, 60, 1)), []int{1, 1}},
		{ring, []int{8}}, {assembly(slices.Insert(slices.Clone(ring.Tiles), 4, placed(1, 1, 7))...), []int{9}},
		{plainAssembly(), []int{3, 1, 3}},
		{rowsAssembly(impl.Point{X: -60, Y: -60}, 121, 500), []int{500}},
		{chessAssembly(impl.Point{X: -20, Y: -7}, 500), slices.Repeat([]int{1}, 500)},
		{snakeAssembly(impl.Point{X: -20, Y: -12}, 40, 500), []int{500}},
	}
	for _, c := range cases {
		var sizes []int
		for _, part := range impl.PartsOf(c.a) {
			sizes = append(sizes, len(part.Tiles))
		}
		if !slices.Equal(sizes, c.sizes) {
			t.Errorf("PartsOf(%v) has the sizes %v, not %v", c.a, sizes, c.sizes)
		}
	}
}

// TestPartsOfOrder has parts that enclose each other: they come in the order of their first tiles, whatever tiles come after them.
func TestPartsOfOrder(t *testing.T) {
	outer := snakeAssembly(impl.Point{X: -1}, 5, 17)
	a := assembly(placed(2, -3, 1), placed(-3, -2, 2), placed(2, -2, 3), placed(-4, -1, 4), placed(-3, -1, 5))
	a.Tiles = append(a.Tiles, outer.Tiles...)
	want := []impl.Assembly{assembly(a.Tiles[0], a.Tiles[2]), assembly(a.Tiles[1], a.Tiles[3], a.Tiles[4]), outer}
	if got := impl.PartsOf(a); !slices.EqualFunc(got, want, equalAssemblies) {
		t.Errorf("PartsOf(%v) is %v, not %v", a, got, want)
	}
	checkParts(t, a)
}

func TestCountTiles(t *testing.T) {
	for _, count := range []int{1, 2, 3, 6, 159, 160} {
		set := countedSet("g", 3, count)
		for _, a := range formedAssemblies() {
			want, wantCode := make([]int64, count), int64(impl.OK)
			for _, x := range a.Tiles {
				if x.Tile >= int64(count) {
					want, wantCode = nil, impl.ErrInvalid
					break
				}
				want[x.Tile]++
			}
			if got, code := impl.CountTiles(set, a); !slices.Equal(got, want) || code != wantCode {
				t.Fatalf("CountTiles(%v) with %d tiles is %v, %d, not %v, %d", a, count, got, code, want, wantCode)
			}
		}
	}
	z := assembly(placed(0, 0, 1), placed(1, 0, 2), placed(3, 0, 2))
	if got, code := impl.CountTiles(plainSet(), z); fmt.Sprint(got) != "[0 1 2]" || code != impl.OK {
		t.Error("CountTiles is", got, code)
	}
}

// TestCountTilesInvalid has invalid sets, and the last tile of a set and one more.
func TestCountTilesInvalid(t *testing.T) {
	for _, faulty := range invalidSets() {
		for _, a := range []impl.Assembly{{}, assembly(placed(0, 0, 0))} {
			if got, code := impl.CountTiles(faulty.set, a); len(got) != 0 || code != impl.ErrInvalid {
				t.Errorf("CountTiles of %v is %v, %d, though: %s", a, got, code, faulty.why)
			}
		}
	}
	for i := range plainAssembly().Tiles {
		a := plainAssembly()
		for j := range a.Tiles {
			a.Tiles[j].Tile = 2
		}
		if got, code := impl.CountTiles(plainSet(), a); fmt.Sprint(got) != fmt.Sprint([]int{0, 0, len(a.Tiles)}) || code != impl.OK {
			t.Error("CountTiles of the last tile is", got, code)
		}
		a.Tiles[i].Tile = 3
		if got, code := impl.CountTiles(plainSet(), a); len(got) != 0 || code != impl.ErrInvalid {
			t.Errorf("CountTiles with a tile after the last one at place %d is %v, %d", i, got, code)
		}
	}
}
