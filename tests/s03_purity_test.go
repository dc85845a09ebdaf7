package tests

import (
	"fmt"
	"slices"
	"testing"

	"loop.example/g01081/impl"
)

// roomyAssembly returns an equal assembly with unused capacity, filled with tiles.
func roomyAssembly(a impl.Assembly) impl.Assembly {
	tiles := append(slices.Clone(a.Tiles), placed(60, 60, 150), placed(-60, 60, -7), placed(99, 99, 199), placed(0, 0, 1))
	return impl.Assembly{Tiles: tiles[:len(a.Tiles)]}
}

// watchTiles returns a function that reports whether the assemblies are as they were, also in their unused capacity.
func watchTiles(assemblies ...impl.Assembly) func() bool {
	var now, before []impl.Assembly
	for _, a := range assemblies {
		now = append(now, impl.Assembly{Tiles: a.Tiles[:cap(a.Tiles)]})
		before = append(before, impl.Assembly{Tiles: slices.Clone(a.Tiles[:cap(a.Tiles)])})
	}
	return func() bool { return slices.EqualFunc(now, before, equalAssemblies) }
}

// argumentAssemblies are assemblies with the form and without it, with and without unused capacity, also such that share memory.
func argumentAssemblies() []impl.Assembly {
	list := append(smallAssemblies(), roomyAssembly(impl.Assembly{}))
	for _, a := range append(smallAssemblies(), largeAssemblies()...) {
		list = append(list, roomyAssembly(a))
	}
	for n := range uint64(12) {
		list = append(list, drawAssembly(n), roomyAssembly(drawAssembly(n+100)))
	}
	for i, faulty := range unformedAssemblies() {
		if i%40 == 0 || len(faulty.assembly.Tiles) == 501 {
			list = append(list, roomyAssembly(faulty.assembly))
		}
	}
	// The first ones have the others in their unused capacity.
	whole := roomyAssembly(plainAssembly()).Tiles
	return append(list, impl.Assembly{Tiles: whole[:3]}, impl.Assembly{Tiles: whole[:5]}, impl.Assembly{Tiles: whole[3:]}, impl.Assembly{Tiles: whole[2:6]})
}

// othersOf are some assemblies of a list for one of them, and itself.
func othersOf(list []impl.Assembly, i int) []impl.Assembly {
	n := len(list)
	return []impl.Assembly{list[i], list[(i+1)%n], list[(i+2)%n], list[(i+n-1)%n], list[(i*7+3)%n], list[n-1-i], list[n-2]}
}

// endsOf has the first and the last tile of an assembly.
func endsOf(a impl.Assembly) impl.Assembly {
	if len(a.Tiles) < 2 {
		return a
	}
	return assembly(a.Tiles[0], a.Tiles[len(a.Tiles)-1])
}

// assemblyCalls are calls of every function of chapter 3 with ordinary and extreme arguments; each returns a text of its results.
func assemblyCalls(list []impl.Assembly, sets []impl.TileSet) []func() string {
	var calls []func() string
	add := func(call func() string) { calls = append(calls, call) }
	for i, a := range list {
		add(func() string { return fmt.Sprint(impl.PointsOf(a)) })
		add(func() string { return fmt.Sprint(impl.BoundsOf(a)) })
		add(func() string { return fmt.Sprint(impl.PartsOf(a)) })
		for _, set := range sets {
			add(func() string { return fmt.Sprint(impl.ValidAssembly(set, a)) })
			add(func() string { return fmt.Sprint(impl.CountTiles(set, a)) })
		}
		for j, p := range pointsAround(endsOf(a)) {
			tile := []int64{0, 3, 159, 160, -1, -1 << 63}[(i+j)%6]
			add(func() string { return fmt.Sprint(impl.TileAt(a, p)) })
			add(func() string { return fmt.Sprint(impl.PutTile(a, p, tile)) })
			add(func() string { return fmt.Sprint(impl.PutTile(a, p, 7)) })
			add(func() string { return fmt.Sprint(impl.TakeTile(a, p)) })
			add(func() string { return fmt.Sprint(impl.MoveAssembly(a, p)) })
		}
		for _, b := range othersOf(list, i) {
			add(func() string { return fmt.Sprint(impl.SameAssembly(a, b)) })
			add(func() string { return fmt.Sprint(impl.JoinAssemblies(a, b)) })
			add(func() string { return fmt.Sprint(impl.JoinAssemblies(b, a)) })
			add(func() string { return fmt.Sprint(impl.IsWithin(a, b)) })
			add(func() string { return fmt.Sprint(impl.FirstDifference(a, b)) })
		}
	}
	return calls
}

// callSets are sets of all sizes for calls with assemblies, valid and not.
func callSets() []impl.TileSet {
	return []impl.TileSet{roomySet(countedSet("g", 3, 160)), roomySet(pairSet()), tightSet(plainSet()), {}, {Tiles: []impl.Tile{{}}}}
}

// TestAssembliesPure makes all calls again, also with equal assemblies in other memory.
func TestAssembliesPure(t *testing.T) {
	list := argumentAssemblies()
	var copies []impl.Assembly
	for _, a := range list {
		copies = append(copies, copyAssembly(a))
	}
	checkPure(t, assemblyCalls(list, callSets()), assemblyCalls(copies, callSets()), assemblyCalls(argumentAssemblies(), callSets()))
}

// TestAssembliesUnchanged checks after each call that no assembly and no set has changed, not even in its unused capacity.
func TestAssembliesUnchanged(t *testing.T) {
	list, sets := argumentAssemblies(), callSets()
	for i := range list {
		few := othersOf(list, i)[:4]
		tilesKept, setsKept := watchTiles(few...), watch(sets...)
		for j, call := range assemblyCalls(few, sets) {
			call()
			if !tilesKept() || !setsKept() {
				t.Fatalf("call %d changed one of %v", j, few)
			}
		}
	}
}

// slicesOf are calls of each function with slices in its results, for two assemblies; each returns these slices and a text of all.
func slicesOf(a, b impl.Assembly) []func() ([]piece, string) {
	tiles := func(a impl.Assembly, code int64) ([]piece, string) {
		return []piece{pieceOf(a.Tiles, placed(7, 7, 77))}, fmt.Sprint(a, code)
	}
	calls := []func() ([]piece, string){
		func() ([]piece, string) { return tiles(impl.JoinAssemblies(a, b)) },
		func() ([]piece, string) { return tiles(impl.JoinAssemblies(b, a)) },
		func() ([]piece, string) { return tiles(impl.JoinAssemblies(a, a)) },
		func() ([]piece, string) { return tiles(impl.JoinAssemblies(a, impl.Assembly{})) },
		func() ([]piece, string) { return tiles(impl.JoinAssemblies(impl.Assembly{}, a)) },
		func() ([]piece, string) { return tiles(impl.MoveAssembly(a, impl.Point{})) },
		func() ([]piece, string) { return tiles(impl.MoveAssembly(a, impl.Point{X: 1, Y: -1})) },
		func() ([]piece, string) { return tiles(impl.PutTile(a, impl.Point{X: 59, Y: 59}, 3)) },
		func() ([]piece, string) { return tiles(impl.PutTile(a, impl.Point{X: -59, Y: -60}, 3)) },
		func() ([]piece, string) {
			points := impl.PointsOf(a)
			return []piece{pieceOf(points, impl.Point{X: 7, Y: 77})}, fmt.Sprint(points)
		},
		func() ([]piece, string) {
			counts, code := impl.CountTiles(countedSet("g", 3, 160), a)
			return []piece{pieceOf(counts, 77)}, fmt.Sprint(counts, code)
		},
		func() ([]piece, string) { parts := impl.PartsOf(a); return partPieces(parts), fmt.Sprint(parts) },
	}
	if count := len(a.Tiles); count > 0 {
		for _, x := range []impl.Placed{a.Tiles[0], a.Tiles[count-1], a.Tiles[count/2]} {
			calls = append(calls, func() ([]piece, string) { return tiles(impl.TakeTile(a, x.At)) })
		}
	}
	return calls
}

// partPieces are all slices of a result of PartsOf: the list of parts, and the tiles of each.
func partPieces(parts []impl.Assembly) []piece {
	list := pieceOf(parts, assembly(placed(7, 7, 77)))
	list.show = func() string { // without the tiles, which are pieces of their own
		var sizes []int
		for _, part := range parts {
			sizes = append(sizes, len(part.Tiles))
		}
		return fmt.Sprint(sizes)
	}
	pieces := []piece{list}
	for _, part := range parts {
		pieces = append(pieces, pieceOf(part.Tiles, placed(7, 7, 77)))
	}
	return pieces
}

// TestAssembliesShareNoMemory writes over each slice of a result, with its unused capacity: no argument and no other slice may change, and the call must return the same again.
func TestAssembliesShareNoMemory(t *testing.T) {
	list := argumentAssemblies()
	for i, a := range list {
		for _, b := range othersOf(list, i)[1:4] {
			for j, call := range slicesOf(a, b) {
				pieces, want := call()
				if len(pieces) > 60 {
					pieces = pieces[:60]
				}
				what := fmt.Sprintf("call %d with %v and %v", j, a, b)
				checkPieces(t, what, pieces, watchTiles(a, b))
				for _, p := range pieces {
					p.write()
				}
				if _, got := call(); got != want {
					t.Fatalf("%s returned %s and then %s", what, want, got)
				}
			}
		}
	}
}
