package tests

import (
	"fmt"
	"slices"
	"testing"

	"loop.example/g01081/impl"
)

// pairWant says what the functions of two assemblies with the form must return.
type pairWant struct {
	joined     impl.Assembly
	joinCode   int64
	within     bool
	first      impl.Point
	differCode int64
}

func wantOfPair(a, b impl.Assembly) pairWant {
	tiles, others := tilesIn(a), tilesIn(b)
	var differences impl.Assembly
	within := true
	for p, tile := range tiles {
		other, ok := others[p]
		within = within && ok && other == tile
		if ok && other != tile {
			differences.Tiles = append(differences.Tiles, impl.Placed{At: p})
		}
	}
	want := pairWant{within: within, differCode: impl.ErrNotFound}
	if len(differences.Tiles) > 0 {
		want.first, want.differCode, want.joinCode = assemblyOf(tilesIn(differences)).Tiles[0].At, impl.OK, impl.ErrClash
		return want
	}
	for p, tile := range others {
		tiles[p] = tile
	}
	if len(tiles) > 500 {
		want.joinCode = impl.ErrFull
		return want
	}
	want.joined = assemblyOf(tiles)
	return want
}

// checkPair checks all functions of two assemblies; it returns the code of JoinAssemblies.
func checkPair(t *testing.T, a, b impl.Assembly) int64 {
	t.Helper()
	want := wantOfPair(a, b)
	what := func(name string) string { return fmt.Sprintf("%s(%v, %v)", name, a, b) }
	joined, code := impl.JoinAssemblies(a, b)
	if code != want.joinCode || !equalAssemblies(joined, want.joined) {
		t.Fatalf("%s is %v, %s, not %v, %s", what("JoinAssemblies"), joined, codeText(code), want.joined, codeText(want.joinCode))
	}
	if impl.IsWithin(a, b) != want.within {
		t.Fatalf("%s is %t", what("IsWithin"), !want.within)
	}
	if p, code := impl.FirstDifference(a, b); p != want.first || code != want.differCode {
		t.Fatalf("%s is %v, %s, not %v, %s", what("FirstDifference"), p, codeText(code), want.first, codeText(want.differCode))
	}
	return code
}

// TestPairsOfGrids has all pairs of assemblies in a small window.
func TestPairsOfGrids(t *testing.T) {
	list := gridAssemblies(2, 2, 2)
	if len(list) != 81 {
		t.Fatal("so many assemblies:", len(list))
	}
	for _, a := range list {
		for _, b := range list {
			checkPair(t, a, b)
		}
	}
	for _, a := range gridAssemblies(3, 1, 3) {
		for _, b := range gridAssemblies(1, 3, 2) {
			checkPair(t, a, b)
			checkPair(t, b, a)
		}
	}
}

func TestPairs(t *testing.T) {
	codes := map[int64]int{}
	for _, a := range formedAssemblies() {
		for _, b := range formedAssemblies() {
			codes[checkPair(t, a, b)]++
		}
	}
	for i := range uint64(1000) {
		codes[checkPair(t, drawAssembly(2*i), drawAssembly(2*i+1))]++
	}
	if codes[impl.OK] < 200 || codes[impl.ErrClash] < 200 || codes[impl.ErrFull] < 20 {
		t.Error("too few cases of one code:", codes)
	}
}

// TestPairsNearlyEqual has assemblies and the same ones with one tile less, one more, one other one, or moved by one point.
func TestPairsNearlyEqual(t *testing.T) {
	for _, a := range formedAssemblies() {
		checkPair(t, a, a)
		checkPair(t, a, copyAssembly(a))
		for i := range a.Tiles {
			if len(a.Tiles) > 20 && i%29 != 0 && i != len(a.Tiles)-1 {
				continue
			}
			less, other := copyAssembly(a), copyAssembly(a)
			less.Tiles = slices.Delete(less.Tiles, i, i+1)
			other.Tiles[i].Tile = (other.Tiles[i].Tile + 1 + int64(i)%159) % 160
			single := assembly(other.Tiles[i])
			for _, b := range []impl.Assembly{less, other, single, assembly(a.Tiles[i]), {Tiles: a.Tiles[:i]}, {Tiles: a.Tiles[i:]}} {
				checkPair(t, a, b)
				checkPair(t, b, a)
			}
			checkPair(t, impl.Assembly{Tiles: a.Tiles[:i]}, impl.Assembly{Tiles: a.Tiles[i:]})
			checkPair(t, impl.Assembly{Tiles: a.Tiles[i:]}, impl.Assembly{Tiles: a.Tiles[:i]})
		}
		for _, by := range []impl.Point{{X: 1}, {Y: 1}, {X: -1, Y: 1}} {
			if moved, code := movedAssembly(a, by); code == impl.OK {
				checkPair(t, a, moved)
				checkPair(t, moved, a)
			}
		}
	}
}

// TestFirstDifferencePlaces has two assemblies with differences at several places: the first one in the order of points counts.
func TestFirstDifferencePlaces(t *testing.T) {
	for _, a := range []impl.Assembly{plainAssembly(), snakeAssembly(impl.Point{X: -3, Y: -9}, 5, 40), rowsAssembly(impl.Point{X: -2, Y: -2}, 3, 12)} {
		for i := range a.Tiles {
			for j := range a.Tiles {
				b := copyAssembly(a)
				b.Tiles[i].Tile = (b.Tiles[i].Tile + 1) % 160
				b.Tiles[j].Tile = (b.Tiles[j].Tile + 80) % 160
				want := a.Tiles[min(i, j)].At
				for _, pair := range [][2]impl.Assembly{{a, b}, {b, a}, {a, assembly(b.Tiles[min(i, j):]...)}, {assembly(a.Tiles[min(i, j):]...), b}} {
					if p, code := impl.FirstDifference(pair[0], pair[1]); p != want || code != impl.OK {
						t.Fatalf("FirstDifference(%v, %v) is %v, %d, not %v", pair[0], pair[1], p, code, want)
					}
				}
			}
		}
	}
	x, y := assembly(placed(0, 0, 1), placed(1, 0, 2)), assembly(placed(1, 0, 3))
	if p, code := impl.FirstDifference(x, y); p != (impl.Point{X: 1}) || code != impl.OK {
		t.Error("FirstDifference of the example is", p, code)
	}
	// The point in the lesser row comes first, though its column is the greater one.
	x, y = assembly(placed(5, 0, 1), placed(-5, 1, 1)), assembly(placed(5, 0, 2), placed(-5, 1, 2))
	if p, code := impl.FirstDifference(x, y); p != (impl.Point{X: 5}) || code != impl.OK {
		t.Error("FirstDifference of two rows is", p, code)
	}
	// The origin is a difference like others, and is not taken for none.
	x, y = assembly(placed(-1, 0, 1), placed(0, 0, 0), placed(1, 0, 1)), assembly(placed(0, 0, 1), placed(1, 0, 2))
	if p, code := impl.FirstDifference(x, y); p != (impl.Point{}) || code != impl.OK {
		t.Error("FirstDifference at the origin is", p, code)
	}
}

// TestJoinLimits joins to exactly 500 tiles and to one more, with disjoint assemblies and with such that share tiles.
func TestJoinLimits(t *testing.T) {
	for _, whole := range []impl.Assembly{rowsAssembly(impl.Point{X: -60, Y: -60}, 121, 501), chessAssembly(impl.Point{X: -20, Y: -7}, 501), snakeAssembly(impl.Point{X: -20, Y: -12}, 40, 501)} {
		part := func(from, to int) impl.Assembly { return assembly(whole.Tiles[from:to]...) }
		cases := []struct {
			a, b impl.Assembly
			code int64
		}{
			{part(0, 250), part(250, 500), impl.OK}, {part(0, 250), part(250, 501), impl.ErrFull}, {part(0, 251), part(251, 501), impl.ErrFull},
			{part(0, 499), part(499, 500), impl.OK}, {part(0, 500), part(500, 501), impl.ErrFull}, {part(1, 501), part(0, 1), impl.ErrFull}, {part(2, 501), part(1, 2), impl.OK},
			{part(0, 500), part(0, 500), impl.OK}, {part(0, 500), impl.Assembly{}, impl.OK}, {part(0, 500), part(499, 500), impl.OK}, {part(0, 500), part(0, 1), impl.OK},
			{part(0, 500), part(1, 501), impl.ErrFull}, {part(0, 400), part(100, 500), impl.OK}, {part(0, 400), part(100, 501), impl.ErrFull}, {part(0, 499), part(1, 500), impl.OK},
		}
		for i, c := range cases {
			for _, code := range []int64{checkPair(t, c.a, c.b), checkPair(t, c.b, c.a)} {
				if code != c.code {
					t.Errorf("case %d has the code %s", i, codeText(code))
				}
			}
		}
	}
	apart := rowsAssembly(impl.Point{X: -60, Y: -60}, 121, 500)
	if code := checkPair(t, apart, rowsAssembly(impl.Point{X: -12, Y: 30}, 25, 500)); code != impl.ErrFull {
		t.Error("joining 500 and 500 tiles has the code", codeText(code))
	}
}

// TestJoinOrder has assemblies that clash and are too many at once: the clash comes first, wherever it is.
func TestJoinOrder(t *testing.T) {
	whole := rowsAssembly(impl.Point{X: -60, Y: -60}, 121, 700)
	a := assembly(whole.Tiles[:500]...)
	for _, i := range []int{200, 201, 350, 498, 499} {
		b := assembly(whole.Tiles[200:700]...)
		b.Tiles[i-200].Tile = (b.Tiles[i-200].Tile + 1) % 160
		for _, pair := range [][2]impl.Assembly{{a, b}, {b, a}} {
			if code := checkPair(t, pair[0], pair[1]); code != impl.ErrClash {
				t.Errorf("with different tiles at place %d the code is %s", i, codeText(code))
			}
		}
	}
	// The only tile in common comes first for one assembly and last for the other one.
	a, b := assembly(whole.Tiles[:500]...), assembly(whole.Tiles[499:]...)
	b.Tiles[0].Tile = (b.Tiles[0].Tile + 1) % 160
	if checkPair(t, a, b) != impl.ErrClash || checkPair(t, b, a) != impl.ErrClash {
		t.Error("no clash at the only tile in common")
	}
}

func TestIsWithinTable(t *testing.T) {
	a := plainAssembly()
	if !impl.IsWithin(impl.Assembly{}, impl.Assembly{}) || !impl.IsWithin(impl.Assembly{}, a) || impl.IsWithin(a, impl.Assembly{}) || !impl.IsWithin(a, a) {
		t.Error("wrong verdict on the empty or the same assembly")
	}
	zero := assembly(placed(0, 0, 0))
	for _, b := range []impl.Assembly{{}, assembly(placed(0, 0, 1)), assembly(placed(1, 0, 0)), assembly(placed(0, 1, 0)), assembly(placed(-1, 0, 0), placed(1, 0, 0))} {
		if impl.IsWithin(zero, b) {
			t.Errorf("IsWithin of the tile 0 at the origin in %v is true", b)
		}
	}
}
