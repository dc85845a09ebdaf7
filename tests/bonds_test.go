package tests

import (
	"fmt"
	"slices"
	"testing"

	"loop.example/g01081/impl"
)

// tiling is a set with an assembly that is valid for it.
type tiling struct {
	set impl.TileSet
	a   impl.Assembly
}

// touching is two tiles of an assembly next to each other: b is next to a in a direction.
type touching struct{ a, dir, b int64 }

// touchesIn are the tiles next to each other: for each tile, the one to the east and then the one to the north.
func touchesIn(a impl.Assembly) []touching {
	var list []touching
	for i, x := range a.Tiles {
		for _, dir := range []int64{impl.DiEast, impl.DiNorth} {
			for j, y := range a.Tiles {
				if dirOf(x.At, y.At) == dir {
					list = append(list, touching{int64(i), dir, int64(j)})
				}
			}
		}
	}
	return list
}

// dirOf is the direction from a point to one next to it, and -1 for all other points.
func dirOf(p, q impl.Point) int64 {
	switch (impl.Point{X: q.X - p.X, Y: q.Y - p.Y}) {
	case impl.Point{Y: 1}:
		return impl.DiNorth
	case impl.Point{X: 1}:
		return impl.DiEast
	case impl.Point{Y: -1}:
		return impl.DiSouth
	case impl.Point{X: -1}:
		return impl.DiWest
	}
	return -1
}

// bondsIn says what BondsOf must return.
func bondsIn(set impl.TileSet, a impl.Assembly) []impl.Bond {
	var list []impl.Bond
	for _, x := range touchesIn(a) {
		if n := bondIn(set, a.Tiles[x.a].Tile, x.dir, a.Tiles[x.b].Tile); n > 0 {
			list = append(list, impl.Bond{A: x.a, B: x.b, Strength: n})
		}
	}
	return list
}

// mismatchesIn says what MismatchesOf must return.
func mismatchesIn(set impl.TileSet, a impl.Assembly) []impl.Bond {
	var list []impl.Bond
	for _, x := range touchesIn(a) {
		if set.Tiles[a.Tiles[x.a].Tile].Sides[x.dir] != set.Tiles[a.Tiles[x.b].Tile].Sides[x.dir^2] {
			list = append(list, impl.Bond{A: x.a, B: x.b})
		}
	}
	return list
}

// bindingIn says what BindingAt must return.
func bindingIn(set impl.TileSet, a impl.Assembly, p impl.Point, tile int64) int64 {
	sum := int64(0)
	for _, x := range a.Tiles {
		if dir := dirOf(p, x.At); dir >= 0 {
			sum += bondIn(set, tile, dir, x.Tile)
		}
	}
	return sum
}

// strengthOf is the sum of the strengths of bonds.
func strengthOf(bonds []impl.Bond) int64 {
	sum := int64(0)
	for _, bond := range bonds {
		sum += bond.Strength
	}
	return sum
}

// cutIn says what CutStrength must return.
func cutIn(bonds []impl.Bond, part []int64) int64 {
	sum := int64(0)
	for _, bond := range bonds {
		if slices.Contains(part, bond.A) != slices.Contains(part, bond.B) {
			sum += bond.Strength
		}
	}
	return sum
}

// bondedIn says what BondedParts must return: tiles with a bond take the lesser one of their numbers until all agree.
func bondedIn(bonds []impl.Bond, count int) [][]int64 {
	numbers := make([]int, count)
	for i := range numbers {
		numbers[i] = i
	}
	for changed := true; changed; {
		changed = false
		for _, bond := range bonds {
			least := min(numbers[bond.A], numbers[bond.B])
			changed = changed || numbers[bond.A] != least || numbers[bond.B] != least
			numbers[bond.A], numbers[bond.B] = least, least
		}
	}
	var parts [][]int64
	for first := range count {
		var part []int64
		for i, number := range numbers {
			if number == first {
				part = append(part, int64(i))
			}
		}
		if len(part) > 0 {
			parts = append(parts, part)
		}
	}
	return parts
}

func isPart(a impl.Assembly, part []int64) bool {
	last := int64(-1)
	for _, place := range part {
		if place <= last || place >= int64(len(a.Tiles)) {
			return false
		}
		last = place
	}
	return true
}

// allPlaces is the part with all tiles of an assembly.
func allPlaces(a impl.Assembly) []int64 {
	var part []int64
	for i := range a.Tiles {
		part = append(part, int64(i))
	}
	return part
}

// restOf has the places that are not in a part.
func restOf(a impl.Assembly, part []int64) []int64 {
	return slices.DeleteFunc(allPlaces(a), func(place int64) bool { return slices.Contains(part, place) })
}

// takenOf is the assembly of the tiles of a part.
func takenOf(a impl.Assembly, part []int64) impl.Assembly {
	var taken impl.Assembly
	for i, x := range a.Tiles {
		if slices.Contains(part, int64(i)) {
			taken.Tiles = append(taken.Tiles, x)
		}
	}
	return taken
}

// drawPart returns a part that depends on a number: each place is in it with a chance that depends on the number, too.
func drawPart(a impl.Assembly, number uint64) []int64 {
	seed := number*15485863 + 3
	some := 1 + nextNumber(&seed, 6)%4
	return slices.DeleteFunc(allPlaces(a), func(int64) bool { return nextNumber(&seed, 6)%5 >= some })
}

// somePartsOf are parts of an assembly: all of them if there are few tiles.
func somePartsOf(a impl.Assembly) [][]int64 {
	count := len(a.Tiles)
	if count <= 6 {
		parts := [][]int64{nil}
		for i := range count {
			for _, part := range parts {
				parts = append(parts, append(slices.Clone(part), int64(i)))
			}
		}
		return parts
	}
	all, last := allPlaces(a), int64(count-1)
	parts := [][]int64{nil, {}, all, all[1:], all[:count-1], all[:count/2], all[count/3:], {0}, {last}, {0, last}, {int64(count / 2)}, {1, 2, 5}}
	for n := range uint64(6) {
		parts = append(parts, drawPart(a, n+uint64(count)))
	}
	return parts
}

// wrongParts are lists that are no parts of an assembly.
func wrongParts(a impl.Assembly) [][]int64 {
	all, count := allPlaces(a), int64(len(a.Tiles))
	var parts [][]int64
	for _, n := range append(edgeNumbers(), count-1, count, count+1, 499, 500, 501, -count) {
		if n < 0 || n >= count {
			parts = append(parts, []int64{n}, append(slices.Clone(all), n), append([]int64{n}, all...))
		}
	}
	for i := range all {
		if i > 5 && i < len(all)-2 {
			continue
		}
		parts = append(parts, slices.Insert(slices.Clone(all), i, all[i]), []int64{all[i], all[i]})
		if i > 0 {
			swapped := slices.Clone(all)
			swapped[i-1], swapped[i] = swapped[i], swapped[i-1]
			parts = append(parts, swapped, []int64{all[i], all[i-1]}, []int64{all[i], 0}, append(slices.Clone(all), 0))
		}
	}
	if count > 0 {
		parts = append(parts, append(slices.Clone(all), all...))
	}
	return append(parts, make([]int64, 1000), append(slices.Clone(all), -1, count))
}

// bondingSet returns a set that depends on a number: few glues, some of them with equal strengths, so that there are many bonds.
func bondingSet(number uint64) impl.TileSet {
	seed := number*86028121 + 5
	draw := func(n int64) int64 { return nextNumber(&seed, 6) % n }
	var set impl.TileSet
	for i := range 1 + draw(4) {
		set.Glues = append(set.Glues, glue(fmt.Sprint("g", i), 1+draw(4)))
	}
	few := int64(len(set.Glues)) + draw(2)
	for i := range 1 + draw(9) {
		var sides []int64
		for range 4 {
			sides = append(sides, (1+draw(few))%int64(len(set.Glues)+1))
		}
		set.Tiles = append(set.Tiles, tile(fmt.Sprint("t", i), sides...))
	}
	return set
}

// strongSet has one tile, with a glue of the greatest strength on all sides.
func strongSet() impl.TileSet {
	return impl.TileSet{Glues: []impl.Glue{glue("a", 4)}, Tiles: []impl.Tile{tile("x", 1, 1, 1, 1)}}
}

// cornerAssembly has three tiles at each corner of the valid points.
func cornerAssembly() impl.Assembly {
	tiles := map[impl.Point]int64{}
	for i, x := range []int64{-60, 60} {
		for j, y := range []int64{-60, 60} {
			n := int64(3 * (2*i + j))
			tiles[impl.Point{X: x, Y: y}] = n
			tiles[impl.Point{X: x - x/60, Y: y}] = n + 1
			tiles[impl.Point{X: x, Y: y - y/60}] = n + 2
		}
	}
	return assemblyOf(tiles)
}

// smallTilings have few tiles, mostly with many bonds.
func smallTilings() []tiling {
	list := []tiling{
		{pairSet(), impl.Assembly{}}, {pairSet(), assembly(placed(0, 0, 0))}, {pairSet(), assembly(placed(60, 60, 1))},
		{pairSet(), assembly(placed(0, 0, 0), placed(1, 0, 1))}, {pairSet(), assembly(placed(0, 0, 1), placed(1, 0, 0))},
	}
	for _, a := range append(smallAssemblies(), cornerAssembly()) {
		for _, set := range []impl.TileSet{strongSet(), pairSet(), plainSet(), countedSet("g", 1, 160), bareSet(plainSet()), bondingSet(uint64(len(a.Tiles)))} {
			list = append(list, tiling{set, withinSet(set, a)})
		}
	}
	for n := range uint64(150) {
		set := bondingSet(n)
		list = append(list, tiling{set, withinSet(set, drawAssembly(n))})
	}
	for i, a := range gridAssemblies(2, 3, 2) {
		set := bondingSet(uint64(i % 40))
		list = append(list, tiling{set, withinSet(set, a)})
	}
	return list
}

// largeTilings have 121, 499 or 500 tiles.
func largeTilings() []tiling {
	var list []tiling
	for i, a := range largeAssemblies() {
		for _, set := range []impl.TileSet{strongSet(), countedSet("g", 2, 160), countedSet("g", 200, 160), bondingSet(uint64(7 * i))} {
			list = append(list, tiling{set, withinSet(set, a)})
		}
	}
	return list
}

func tilings() []tiling { return append(smallTilings(), largeTilings()...) }

// checkBondList compares a list of bonds or of mismatches with what it must be.
func checkBondList(t *testing.T, what string, list []impl.Bond, code int64, want []impl.Bond) {
	t.Helper()
	if !slices.Equal(list, want) || code != impl.OK {
		t.Fatalf("%s is %v, %d, not %v", what, list, code, want)
	}
}

// checkNumber compares a sum of strengths with what it must be.
func checkNumber(t *testing.T, what string, n, code, want int64) {
	t.Helper()
	if n != want || code != impl.OK {
		t.Fatalf("%s is %d, %d, not %d", what, n, code, want)
	}
}
