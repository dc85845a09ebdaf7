package tests

import (
	"fmt"
	"maps"
	"slices"
	"testing"

	"loop.example/g01081/impl"
)

// wantOfPut says what PutTile must return for an assembly with the form.
func wantOfPut(a impl.Assembly, p impl.Point, tile int64) (impl.Assembly, int64) {
	tiles := tilesIn(a)
	_, taken := tiles[p]
	switch {
	case !isValidPoint(p) || tile < 0 || tile > 159:
		return impl.Assembly{}, impl.ErrRange
	case taken:
		return impl.Assembly{}, impl.ErrClash
	case len(tiles) == 500:
		return impl.Assembly{}, impl.ErrFull
	}
	tiles[p] = tile
	return assemblyOf(tiles), impl.OK
}

// someOf are the points themselves, or about 150 of them if there are more.
func someOf(points []impl.Point) []impl.Point {
	var some []impl.Point
	for i, p := range points {
		if i < 20 || i%(1+len(points)/150) == 0 {
			some = append(some, p)
		}
	}
	return some
}

func TestTileAt(t *testing.T) {
	for _, a := range formedAssemblies() {
		tiles := tilesIn(a)
		for _, p := range pointsAround(a) {
			want, wantOK := tiles[p]
			if got, ok := impl.TileAt(a, p); got != want || ok != wantOK {
				t.Fatalf("TileAt(%v, %v) is %d, %t, not %d, %t", a, p, got, ok, want, wantOK)
			}
		}
	}
}

// TestTileAtEverywhere looks at all valid points.
func TestTileAtEverywhere(t *testing.T) {
	for _, a := range []impl.Assembly{{}, plainAssembly(), assembly(placed(-60, -60, 0), placed(60, -60, 1), placed(-60, 60, 159), placed(60, 60, 3))} {
		tiles := tilesIn(a)
		for _, p := range append(validPoints(), edgePoints()...) {
			want, wantOK := tiles[p]
			if got, ok := impl.TileAt(a, p); got != want || ok != wantOK {
				t.Fatalf("TileAt(%v, %v) is %d, %t", a, p, got, ok)
			}
		}
	}
}

func TestPutTile(t *testing.T) {
	codes := map[int64]int{}
	for i, a := range formedAssemblies() {
		for j, p := range someOf(pointsAround(a)) {
			for _, tile := range []int64{0, 159, int64(i*31+j*17) % 160} {
				want, wantCode := wantOfPut(a, p, tile)
				got, code := impl.PutTile(a, p, tile)
				checkAssembly(t, fmt.Sprintf("PutTile(%v, %v, %d)", a, p, tile), got, code, want, wantCode)
				codes[code]++
			}
		}
	}
	if codes[impl.OK] < 100 || codes[impl.ErrRange] < 100 || codes[impl.ErrClash] < 100 || codes[impl.ErrFull] < 100 {
		t.Error("too few cases of one code:", codes)
	}
	got, code := impl.PutTile(impl.Assembly{}, impl.Point{}, 3)
	checkAssembly(t, "PutTile of the empty assembly", got, code, assembly(placed(0, 0, 3)), impl.OK)
}

// TestPutTileRange has points and tiles around the limits, where the assembly is empty, has a tile there, or is full.
func TestPutTileRange(t *testing.T) {
	full := rowsAssembly(impl.Point{X: -60, Y: -60}, 121, 500)
	bases := []impl.Assembly{{}, plainAssembly(), assembly(placed(0, 0, 1)), full}
	for _, a := range bases {
		for _, tile := range append(edgeNumbers(), 158, 159, 160, 161, 256+3) {
			for _, p := range []impl.Point{{}, {X: 2, Y: 5}, {X: -60, Y: -60}, {X: 61}} {
				want, wantCode := wantOfPut(a, p, tile)
				got, code := impl.PutTile(a, p, tile)
				checkAssembly(t, fmt.Sprintf("PutTile(%v, %v, %d)", a, p, tile), got, code, want, wantCode)
			}
		}
		for _, p := range edgePoints() {
			want, wantCode := wantOfPut(a, p, 1)
			got, code := impl.PutTile(a, p, 1)
			checkAssembly(t, fmt.Sprintf("PutTile(%v, %v, 1)", a, p), got, code, want, wantCode)
		}
	}
}

// TestPutTileOrder has several errors at once: first the range, then the clash, and the limit last.
func TestPutTileOrder(t *testing.T) {
	for _, full := range largeAssemblies() {
		if len(full.Tiles) != 500 {
			continue
		}
		tiles := tilesIn(full)
		free := slices.DeleteFunc(validPoints(), func(p impl.Point) bool { _, taken := tiles[p]; return taken })
		first, last := full.Tiles[0].At, full.Tiles[499].At
		cases := []struct {
			p    impl.Point
			tile int64
			code int64
		}{
			{impl.Point{X: 61}, 0, impl.ErrRange}, {impl.Point{Y: -61}, 160, impl.ErrRange}, {first, 160, impl.ErrRange}, {last, -1, impl.ErrRange}, {free[0], 160, impl.ErrRange},
			{first, full.Tiles[0].Tile, impl.ErrClash}, {last, full.Tiles[499].Tile, impl.ErrClash}, {last, 159, impl.ErrClash},
			{free[0], 0, impl.ErrFull}, {free[len(free)/2], 7, impl.ErrFull}, {free[len(free)-1], 159, impl.ErrFull},
		}
		for _, c := range cases {
			got, code := impl.PutTile(full, c.p, c.tile)
			checkAssembly(t, fmt.Sprintf("PutTile to 500 tiles, %v, %d", c.p, c.tile), got, code, impl.Assembly{}, c.code)
		}
		less := impl.Assembly{Tiles: full.Tiles[:499]}
		got, code := impl.PutTile(less, last, full.Tiles[499].Tile)
		checkAssembly(t, "PutTile to 499 tiles", got, code, full, impl.OK)
		got, code = impl.PutTile(impl.Assembly{Tiles: full.Tiles[1:]}, first, full.Tiles[0].Tile)
		checkAssembly(t, "PutTile before 499 tiles", got, code, full, impl.OK)
		got, code = impl.PutTile(less, full.Tiles[498].At, 0)
		checkAssembly(t, "PutTile on the last one of 499 tiles", got, code, impl.Assembly{}, impl.ErrClash)
	}
}

func TestTakeTile(t *testing.T) {
	for _, a := range formedAssemblies() {
		for _, p := range someOf(pointsAround(a)) {
			tiles := tilesIn(a)
			want, wantCode := impl.Assembly{}, int64(impl.ErrNotFound)
			if _, ok := tiles[p]; ok {
				delete(tiles, p)
				want, wantCode = assemblyOf(tiles), impl.OK
			}
			got, code := impl.TakeTile(a, p)
			checkAssembly(t, fmt.Sprintf("TakeTile(%v, %v)", a, p), got, code, want, wantCode)
		}
	}
}

// TestTakeEachTile takes each tile, finds the others, and puts it back or another one instead.
func TestTakeEachTile(t *testing.T) {
	for _, a := range formedAssemblies() {
		if len(a.Tiles) > 130 {
			continue
		}
		for _, x := range a.Tiles {
			rest, code := impl.TakeTile(a, x.At)
			if code != impl.OK || len(rest.Tiles) != len(a.Tiles)-1 {
				t.Fatalf("TakeTile(%v, %v) is %v, %d", a, x.At, rest, code)
			}
			again, code := impl.TakeTile(rest, x.At)
			checkAssembly(t, "TakeTile of a tile that was taken", again, code, impl.Assembly{}, impl.ErrNotFound)
			back, code := impl.PutTile(rest, x.At, x.Tile)
			checkAssembly(t, "PutTile of a tile that was taken", back, code, a, impl.OK)
			other, code := impl.PutTile(rest, x.At, 159-x.Tile)
			tiles := maps.Clone(tilesIn(a))
			tiles[x.At] = 159 - x.Tile
			checkAssembly(t, "PutTile of another tile", other, code, assemblyOf(tiles), impl.OK)
		}
	}
}
