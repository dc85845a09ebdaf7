package tests

import (
	"fmt"
	"slices"
	"testing"

	"loop.example/g01081/impl"
)

// checkBindingAt compares what a tile binds with at a point with what it must be.
func checkBindingAt(t *testing.T, x tiling, p impl.Point, tile int64) int64 {
	t.Helper()
	want := bindingIn(x.set, x.a, p, tile)
	n, code := impl.BindingAt(x.set, x.a, p, tile)
	checkNumber(t, fmt.Sprintf("BindingAt(%v, %v, %v, %d)", x.set, x.a, p, tile), n, code, want)
	return n
}

func TestBindingAt(t *testing.T) {
	sum := int64(0)
	for _, x := range smallTilings() {
		for i, p := range pointsAround(x.a) {
			if !isValidPoint(p) {
				continue
			}
			for tile := range x.set.Tiles {
				if len(x.set.Tiles) < 10 || (tile+i)%41 == 0 || tile == 159 {
					sum += checkBindingAt(t, x, p, int64(tile))
				}
			}
		}
	}
	for _, x := range largeTilings() {
		for i := range int64(60) {
			p := x.a.Tiles[(i*i*7)%int64(len(x.a.Tiles))].At
			q := impl.Point{X: min(p.X+i%2, 60), Y: max(p.Y-i%3, -60)}
			sum += checkBindingAt(t, x, q, i%int64(len(x.set.Tiles)))
		}
	}
	if sum < 10000 {
		t.Error("all tiles together bind only with", sum)
	}
}

// fourSides is a set of a tile with another glue on each side, its fitting neighbors in the order of directions, and a tile without a glue.
func fourSides() impl.TileSet {
	return impl.TileSet{
		Glues: []impl.Glue{glue("n", 1), glue("e", 2), glue("s", 3), glue("w", 4)},
		Tiles: []impl.Tile{tile("x", 1, 2, 3, 4), tile("n", 4, 4, 1, 4), tile("e", 4, 4, 4, 2), tile("s", 3, 4, 4, 4), tile("w", 3, 4, 3, 3), tile("o", 0, 0, 0, 0)},
	}
}

// TestFourNeighbors has all sets of neighbors of a point that is free, or has one of all tiles.
func TestFourNeighbors(t *testing.T) {
	set := fourSides()
	for mask := range 16 {
		for own := range int64(7) {
			for _, at := range []impl.Point{{}, {X: -59, Y: 59}, {X: 59, Y: -59}} {
				tiles, want := map[impl.Point]int64{}, int64(0)
				if own < 6 {
					tiles[at] = own
				}
				for dir := range int64(4) {
					if step := stepOf(dir); mask>>dir&1 == 1 {
						tiles[impl.Point{X: at.X + step.X, Y: at.Y + step.Y}] = 1 + dir
						want += 1 + dir
					}
				}
				n, code := impl.BindingAt(set, assemblyOf(tiles), at, 0)
				checkNumber(t, fmt.Sprintf("BindingAt of the neighbors %04b", mask), n, code, want)
				n, code = impl.BindingAt(set, assemblyOf(tiles), at, 5)
				checkNumber(t, fmt.Sprintf("BindingAt of a bare tile with the neighbors %04b", mask), n, code, 0)
			}
		}
	}
}

// TestBindingAtOwnPoint says that a tile at the point does not matter.
func TestBindingAtOwnPoint(t *testing.T) {
	for _, x := range smallTilings() {
		for _, own := range x.a.Tiles {
			without, _ := impl.TakeTile(x.a, own.At)
			for tile := range int64(min(len(x.set.Tiles), 12)) {
				want, wantCode := impl.BindingAt(x.set, without, own.At, tile)
				if n, code := impl.BindingAt(x.set, x.a, own.At, tile); n != want || code != impl.OK || wantCode != impl.OK {
					t.Fatalf("BindingAt(%v, %v, %v, %d) is %d, %d, and %d, %d without the tile there", x.set, x.a, own.At, tile, n, code, want, wantCode)
				}
			}
		}
	}
}

// TestBindingAtLimits has the points with the greatest and the least coordinates and one more, and the least and the greatest index and one more.
func TestBindingAtLimits(t *testing.T) {
	a := withinSet(strongSet(), cornerAssembly())
	cases := []struct{ x, y, want int64 }{
		{60, 60, 8}, {-60, -60, 8}, {60, -60, 8}, {-60, 60, 8}, {59, 59, 8}, {-59, 59, 8}, {58, 60, 4}, {60, 58, 4}, {59, 60, 4}, {-60, -58, 4}, {0, 60, 0}, {-60, 0, 0}, {0, 0, 0},
	}
	for _, c := range cases {
		n, code := impl.BindingAt(strongSet(), a, impl.Point{X: c.x, Y: c.y}, 0)
		checkNumber(t, fmt.Sprintf("BindingAt %d, %d", c.x, c.y), n, code, c.want)
	}
	for _, count := range []int{1, 2, 159, 160} {
		x := tiling{countedSet("g", 3, count), assembly(placed(0, 0, 0), placed(2, 0, int64(count-1)))}
		for _, tile := range append(edgeNumbers(), 159, 160, 161, int64(count-1), int64(count), int64(count+1)) {
			if tile >= 0 && tile < int64(count) {
				checkBindingAt(t, x, impl.Point{X: 1}, tile)
			} else if n, code := impl.BindingAt(x.set, x.a, impl.Point{X: 1}, tile); n != 0 || code != impl.ErrRange {
				t.Errorf("BindingAt of tile %d of %d is %d, %d", tile, count, n, code)
			}
		}
	}
	for _, p := range append(edgePoints(), validPoints()...) {
		for _, tile := range []int64{0, 1, -1} {
			n, code := impl.BindingAt(strongSet(), a, p, tile)
			if !isValidPoint(p) || tile != 0 {
				if n != 0 || code != impl.ErrRange {
					t.Fatalf("BindingAt %v of tile %d is %d, %d", p, tile, n, code)
				}
				continue
			}
			checkNumber(t, fmt.Sprint("BindingAt ", p), n, code, bindingIn(strongSet(), a, p, 0))
		}
	}
}

func TestBindingsOf(t *testing.T) {
	for _, x := range tilings() {
		var want []int64
		for _, own := range x.a.Tiles {
			want = append(want, bindingIn(x.set, x.a, own.At, own.Tile))
		}
		if list, code := impl.BindingsOf(x.set, x.a); !slices.Equal(list, want) || code != impl.OK {
			t.Fatalf("BindingsOf(%v, %v) is %v, %d, not %v", x.set, x.a, list, code, want)
		}
	}
}

// TestStrengthsTable has strengths that are known.
func TestStrengthsTable(t *testing.T) {
	full := withinSet(strongSet(), rowsAssembly(impl.Point{X: -12, Y: -10}, 25, 500))
	cross := assembly(placed(0, -1, 3), placed(-1, 0, 4), placed(0, 0, 0), placed(1, 0, 2), placed(0, 1, 1))
	cases := []struct {
		set      impl.TileSet
		a        impl.Assembly
		bindings []int64
		total    int64
	}{
		{pairSet(), impl.Assembly{}, nil, 0}, {pairSet(), assembly(placed(0, 0, 1)), []int64{0}, 0},
		{pairSet(), assembly(placed(0, 0, 0), placed(1, 0, 1)), []int64{2, 2}, 2}, {pairSet(), assembly(placed(0, 0, 1), placed(1, 0, 0)), []int64{0, 0}, 0},
		{pairSet(), assembly(placed(0, 0, 0), placed(1, 0, 1), placed(2, 0, 0), placed(3, 0, 1)), []int64{2, 2, 2, 2}, 4},
		{pairSet(), assembly(placed(0, 0, 0), placed(2, 0, 1)), []int64{0, 0}, 0}, {pairSet(), assembly(placed(0, 0, 0), placed(0, 1, 1)), []int64{0, 0}, 0},
		{fourSides(), cross, []int64{3, 4, 10, 2, 1}, 10},
		{strongSet(), withinSet(strongSet(), rowsAssembly(impl.Point{}, 3, 9)), []int64{8, 12, 8, 12, 16, 12, 8, 12, 8}, 48},
		{strongSet(), full, nil, 3820}, {bareSet(strongSet()), full, make([]int64, 500), 0},
		{strongSet(), withinSet(strongSet(), chessAssembly(impl.Point{X: -20, Y: -7}, 500)), make([]int64, 500), 0},
		{strongSet(), withinSet(strongSet(), snakeAssembly(impl.Point{X: -20, Y: -12}, 40, 500)), nil, 4 * 499},
	}
	for _, c := range cases {
		n, code := impl.TotalStrength(c.set, c.a)
		checkNumber(t, fmt.Sprint("TotalStrength of ", c.a), n, code, c.total)
		list, code := impl.BindingsOf(c.set, c.a)
		if len(list) != len(c.a.Tiles) || code != impl.OK || c.bindings != nil && !slices.Equal(list, c.bindings) {
			t.Errorf("BindingsOf %v is %v, %d, not %v", c.a, list, code, c.bindings)
		}
	}
}

func TestTotalStrength(t *testing.T) {
	for _, x := range tilings() {
		n, code := impl.TotalStrength(x.set, x.a)
		checkNumber(t, fmt.Sprintf("TotalStrength(%v, %v)", x.set, x.a), n, code, strengthOf(bondsIn(x.set, x.a)))
	}
}

// TestStrengthsAgree says that each bond binds two tiles, and that a tile that is put adds what it binds with.
func TestStrengthsAgree(t *testing.T) {
	for i, x := range tilings() {
		total, _ := impl.TotalStrength(x.set, x.a)
		bindings, _ := impl.BindingsOf(x.set, x.a)
		sum := int64(0)
		for _, n := range bindings {
			sum += n
		}
		if sum != 2*total {
			t.Fatalf("the tiles of %v bind with %d, and the bonds have the strength %d", x, sum, total)
		}
		for j, p := range pointsAround(endsOf(x.a)) {
			tile := int64((i + j) % len(x.set.Tiles))
			longer, code := impl.PutTile(x.a, p, tile)
			if code != impl.OK {
				continue
			}
			more, _ := impl.TotalStrength(x.set, longer)
			if n, code := impl.BindingAt(x.set, x.a, p, tile); more != total+n || code != impl.OK {
				t.Fatalf("with tile %d at %v the bonds of %v have the strength %d, not %d and %d", tile, p, x, more, total, n)
			}
		}
	}
}
