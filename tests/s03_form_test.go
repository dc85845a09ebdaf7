package tests

import (
	"fmt"
	"slices"
	"testing"

	"loop.example/g01081/impl"
)

func TestAssemblyConstants(t *testing.T) {
	if impl.MaxPlaced != 500 {
		t.Error("wrong limit", impl.MaxPlaced)
	}
}

func TestValidAssembly(t *testing.T) {
	all := countedSet("g", 200, 160)
	for _, a := range formedAssemblies() {
		if !impl.ValidAssembly(all, a) {
			t.Errorf("ValidAssembly(%v) is false", a)
		}
	}
	for _, faulty := range unformedAssemblies() {
		if impl.ValidAssembly(all, faulty.assembly) {
			t.Errorf("ValidAssembly is true, though: %s", faulty.why)
		}
	}
}

// TestValidAssemblyTiles has each tile up to the last one of a set and some after it, at each place.
func TestValidAssemblyTiles(t *testing.T) {
	for _, count := range []int64{1, 2, 3, 100, 159, 160} {
		set := countedSet("g", 3, int(count))
		for tile := int64(-2); tile <= 162; tile++ {
			want := tile >= 0 && tile < count
			for i := range 3 {
				a := assembly(placed(0, 0, 0), placed(1, 0, 0), placed(-1, 1, 0))
				a.Tiles[i].Tile = tile
				if impl.ValidAssembly(set, a) != want {
					t.Errorf("with the tile %d of %d at the place %d ValidAssembly is %t", tile, count, i, !want)
				}
			}
		}
	}
}

// TestValidAssemblyInvalidSet has assemblies with the form, but sets that are not valid.
func TestValidAssemblyInvalidSet(t *testing.T) {
	for _, faulty := range invalidSets() {
		for _, a := range []impl.Assembly{{}, {Tiles: []impl.Placed{}}, assembly(placed(0, 0, 0)), assembly(placed(0, 0, 1), placed(0, 1, 2)), plainAssembly()} {
			if impl.ValidAssembly(faulty.set, a) {
				t.Errorf("ValidAssembly of %v is true, though: %s", a, faulty.why)
			}
		}
	}
	if impl.ValidAssembly(impl.TileSet{}, impl.Assembly{}) || !impl.ValidAssembly(pairSet(), impl.Assembly{}) {
		t.Error("wrong verdict on the empty assembly")
	}
}

// TestOrderOfPoints tries all pairs of points, equal ones as well: the row counts first and then the column.
func TestOrderOfPoints(t *testing.T) {
	var points []impl.Point
	for _, y := range []int64{-60, -59, -1, 0, 1, 2, 59, 60} {
		for _, x := range []int64{-60, -59, -2, -1, 0, 1, 59, 60} {
			points = append(points, impl.Point{X: x, Y: y})
		}
	}
	for i, p := range points {
		for j, q := range points {
			a := impl.Assembly{Tiles: []impl.Placed{{At: p, Tile: 1}, {At: q, Tile: 0}}}
			if impl.ValidAssembly(pairSet(), a) != (i < j) {
				t.Errorf("ValidAssembly(%v) is %t", a, i >= j)
			}
			if _, ok := impl.TileAt(a, p); ok != (i < j) {
				t.Errorf("TileAt(%v) is %t", a, ok)
			}
		}
	}
}

// TestOrderOfPermutations has all orders of five points, two of them in one row and two in one column: only one is right.
func TestOrderOfPermutations(t *testing.T) {
	want := []impl.Placed{placed(1, -1, 0), placed(-2, 0, 1), placed(0, 0, 1), placed(-2, 1, 0), placed(-3, 2, 1)}
	right := 0
	for _, order := range permutations(len(want)) {
		var a impl.Assembly
		for _, i := range order {
			a.Tiles = append(a.Tiles, want[i])
		}
		valid := impl.ValidAssembly(pairSet(), a)
		if valid != slices.Equal(a.Tiles, want) {
			t.Errorf("ValidAssembly(%v) is %t", a, valid)
		}
		if valid {
			right++
		}
	}
	if right != 1 {
		t.Error("so many orders are right:", right)
	}
}

// permutations are all orders of the numbers from 0 to n-1.
func permutations(n int) [][]int {
	list := [][]int{{}}
	for i := range n {
		var longer [][]int
		for _, order := range list {
			for at := range i + 1 {
				longer = append(longer, slices.Insert(slices.Clone(order), at, i))
			}
		}
		list = longer
	}
	return list
}

func TestSameAssembly(t *testing.T) {
	list := formedAssemblies()
	for _, faulty := range unformedAssemblies() {
		if len(faulty.assembly.Tiles) < 20 {
			list = append(list, faulty.assembly)
		}
		if !impl.SameAssembly(faulty.assembly, copyAssembly(faulty.assembly)) {
			t.Errorf("SameAssembly is false for an assembly and itself, though: %s", faulty.why)
		}
	}
	for _, a := range list {
		for _, b := range list {
			if want := equalAssemblies(a, b); impl.SameAssembly(a, b) != want {
				t.Fatalf("SameAssembly(%v, %v) is %t", a, b, !want)
			}
		}
	}
}

// TestSameAssemblyChanges changes one thing at each place of an assembly.
func TestSameAssemblyChanges(t *testing.T) {
	changes := map[string]func(a *impl.Assembly, i int){
		"one X more":          func(a *impl.Assembly, i int) { a.Tiles[i].At.X++ },
		"another X":           func(a *impl.Assembly, i int) { a.Tiles[i].At.X += 1 << 32 },
		"another Y":           func(a *impl.Assembly, i int) { a.Tiles[i].At.Y -= 1 << 32 },
		"another tile":        func(a *impl.Assembly, i int) { a.Tiles[i].Tile += 1 << 32 },
		"one tile less":       func(a *impl.Assembly, i int) { a.Tiles = slices.Delete(a.Tiles, i, i+1) },
		"one tile twice":      func(a *impl.Assembly, i int) { a.Tiles = slices.Insert(a.Tiles, i, a.Tiles[i]) },
		"no tile after this":  func(a *impl.Assembly, i int) { a.Tiles = a.Tiles[:i] },
		"no tile before this": func(a *impl.Assembly, i int) { a.Tiles = a.Tiles[i+1:] },
		"another order": func(a *impl.Assembly, i int) {
			j := (i + 1) % len(a.Tiles)
			a.Tiles[i], a.Tiles[j] = a.Tiles[j], a.Tiles[i]
		},
	}
	for what, change := range changes {
		for i := range plainAssembly().Tiles {
			a := plainAssembly()
			change(&a, i)
			if impl.SameAssembly(a, plainAssembly()) || impl.SameAssembly(plainAssembly(), a) {
				t.Errorf("SameAssembly is true with a change at %d: %s", i, what)
			}
			if !impl.SameAssembly(a, copyAssembly(a)) {
				t.Errorf("SameAssembly is false for an assembly and itself after a change at %d: %s", i, what)
			}
		}
	}
	empty := []impl.Assembly{{}, {Tiles: []impl.Placed{}}, {Tiles: plainAssembly().Tiles[:0]}}
	for _, a := range empty {
		for _, b := range empty {
			if !impl.SameAssembly(a, b) {
				t.Errorf("SameAssembly(%#v, %#v) is false", a, b)
			}
		}
	}
}

// TestAssembliesInvalid has assemblies without the form, with other arguments that are right, wrong or would be an error themselves: ErrInvalid comes first.
func TestAssembliesInvalid(t *testing.T) {
	for _, faulty := range unformedAssemblies() {
		a := faulty.assembly
		points := []impl.Point{{}, {X: 2, Y: 2}, {X: 61}, {X: 121}, {Y: -1 << 63}, a.Tiles[0].At, a.Tiles[len(a.Tiles)-1].At}
		for _, p := range points {
			if tile, ok := impl.TileAt(a, p); tile != 0 || ok {
				t.Errorf("TileAt %v is %d, %t, though: %s", p, tile, ok, faulty.why)
			}
			for _, tile := range []int64{0, 3, 159, 160, -1} {
				got, code := impl.PutTile(a, p, tile)
				checkNoAssembly(t, "PutTile", got, code, faulty.why)
			}
			got, code := impl.TakeTile(a, p)
			checkNoAssembly(t, "TakeTile", got, code, faulty.why)
			got, code = impl.MoveAssembly(a, p)
			checkNoAssembly(t, "MoveAssembly", got, code, faulty.why)
		}
		if points := impl.PointsOf(a); len(points) != 0 {
			t.Errorf("PointsOf is %v, though: %s", points, faulty.why)
		}
		if low, high, code := impl.BoundsOf(a); low != (impl.Point{}) || high != (impl.Point{}) || code != impl.ErrInvalid {
			t.Errorf("BoundsOf is %v, %v, %d, though: %s", low, high, code, faulty.why)
		}
		if parts := impl.PartsOf(a); len(parts) != 0 {
			t.Errorf("PartsOf is %v, though: %s", parts, faulty.why)
		}
		for _, set := range []impl.TileSet{countedSet("g", 3, 160), pairSet(), {}} {
			if counts, code := impl.CountTiles(set, a); len(counts) != 0 || code != impl.ErrInvalid {
				t.Errorf("CountTiles is %v, %d, though: %s", counts, code, faulty.why)
			}
		}
	}
}

// TestPairsInvalid has assemblies without the form on either side, or on both.
func TestPairsInvalid(t *testing.T) {
	otherTiles := plainAssembly()
	for i := range otherTiles.Tiles {
		otherTiles.Tiles[i].Tile++
		otherTiles.Tiles[i].Tile %= 160
	}
	for _, faulty := range unformedAssemblies() {
		others := []impl.Assembly{{}, plainAssembly(), otherTiles, rowsAssembly(impl.Point{X: -60, Y: -60}, 121, 500), faulty.assembly}
		for _, other := range others {
			for _, pair := range [][2]impl.Assembly{{other, faulty.assembly}, {faulty.assembly, other}} {
				got, code := impl.JoinAssemblies(pair[0], pair[1])
				checkNoAssembly(t, "JoinAssemblies", got, code, faulty.why)
				if impl.IsWithin(pair[0], pair[1]) {
					t.Errorf("IsWithin is true, though: %s", faulty.why)
				}
				if p, code := impl.FirstDifference(pair[0], pair[1]); p != (impl.Point{}) || code != impl.ErrInvalid {
					t.Errorf("FirstDifference is %v, %d, though: %s", p, code, faulty.why)
				}
			}
		}
	}
}

func checkNoAssembly(t *testing.T, what string, got impl.Assembly, code int64, why string) {
	t.Helper()
	if len(got.Tiles) != 0 || code != impl.ErrInvalid {
		t.Errorf("%s is %v, %d, though: %s", what, got, code, why)
	}
}

// checkAssembly compares an assembly with what it must be.
func checkAssembly(t *testing.T, what string, got impl.Assembly, code int64, want impl.Assembly, wantCode int64) {
	t.Helper()
	if code != wantCode || !equalAssemblies(got, want) {
		t.Fatalf("%s is %v, %s, not %v, %s", what, got, codeText(code), want, codeText(wantCode))
	}
}

func codeText(code int64) string {
	return fmt.Sprint(code, " ", impl.CodeName(code))
}
