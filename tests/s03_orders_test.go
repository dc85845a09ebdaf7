package tests

import (
	"fmt"
	"slices"
	"testing"

	"loop.example/g01081/impl"
)

// putAll puts tiles one by one to an assembly.
func putAll(t *testing.T, a impl.Assembly, tiles []impl.Placed) impl.Assembly {
	t.Helper()
	for _, x := range tiles {
		next, code := impl.PutTile(a, x.At, x.Tile)
		if code != impl.OK {
			t.Fatalf("PutTile(%v, %v) is %s", a, x, codeText(code))
		}
		a = next
	}
	return a
}

// takeAll takes tiles one by one from an assembly.
func takeAll(t *testing.T, a impl.Assembly, tiles []impl.Placed) impl.Assembly {
	t.Helper()
	for _, x := range tiles {
		next, code := impl.TakeTile(a, x.At)
		if code != impl.OK {
			t.Fatalf("TakeTile(%v, %v) is %s", a, x, codeText(code))
		}
		a = next
	}
	return a
}

// joinAll joins assemblies one by one.
func joinAll(t *testing.T, list []impl.Assembly) impl.Assembly {
	t.Helper()
	var a impl.Assembly
	for _, b := range list {
		next, code := impl.JoinAssemblies(a, b)
		if code != impl.OK {
			t.Fatalf("JoinAssemblies(%v, %v) is %s", a, b, codeText(code))
		}
		a = next
	}
	return a
}

// inOrder are the items in another order.
func inOrder[T any](items []T, order []int) []T {
	result := make([]T, len(items))
	for i, at := range order {
		result[i] = items[at]
	}
	return result
}

// drawnOrder is an order of the numbers from 0 to n-1 that depends on a number.
func drawnOrder(number uint64, n int) []int {
	seed := number*15485863 + 5
	return drawOrder(func(n int64) int64 { return nextNumber(&seed, 6) % n }, n)
}

// TestTilesInAnyOrder puts and takes the tiles of small assemblies in all orders: the set of tiles counts alone.
func TestTilesInAnyOrder(t *testing.T) {
	bases := []impl.Assembly{
		assembly(placed(-2, -1, 0), placed(0, -1, 159), placed(-3, 0, 5), placed(1, 0, 5), placed(0, 1, 9)),
		assembly(placed(0, 0, 1), placed(1, 0, 2), placed(0, 1, 3), placed(1, 1, 4)),
		assembly(placed(60, -60, 0), placed(-60, 0, 0), placed(60, 0, 0), placed(-60, 60, 0)),
	}
	for _, a := range bases {
		for _, order := range permutations(len(a.Tiles)) {
			tiles := inOrder(a.Tiles, order)
			if got := putAll(t, impl.Assembly{}, tiles); !equalAssemblies(got, a) || !impl.SameAssembly(got, a) || !impl.ValidAssembly(countedSet("g", 3, 160), got) {
				t.Fatalf("the tiles %v are put together to %v", tiles, got)
			}
			for k := range tiles {
				rest := takeAll(t, a, tiles[:k])
				if want := putAll(t, impl.Assembly{}, tiles[k:]); !equalAssemblies(rest, want) {
					t.Fatalf("without %v the assembly is %v, not %v", tiles[:k], rest, want)
				}
			}
			if rest := takeAll(t, a, tiles); len(rest.Tiles) != 0 {
				t.Fatalf("without all tiles the assembly is %v", rest)
			}
		}
	}
}

// TestManyTilesInAnyOrder does the same with large assemblies and some orders.
func TestManyTilesInAnyOrder(t *testing.T) {
	for i, a := range formedAssemblies() {
		backwards := slices.Clone(a.Tiles)
		slices.Reverse(backwards)
		for _, tiles := range [][]impl.Placed{a.Tiles, backwards, inOrder(a.Tiles, drawnOrder(uint64(i), len(a.Tiles)))} {
			if got := putAll(t, impl.Assembly{}, tiles); !equalAssemblies(got, a) {
				t.Fatalf("the tiles %v are put together to %v", tiles, got)
			}
			k := len(tiles) / 3
			rest := takeAll(t, a, tiles[:k])
			if got := putAll(t, rest, tiles[:k]); !equalAssemblies(got, a) {
				t.Fatalf("taken and put back, %v is %v", a, got)
			}
			if rest = takeAll(t, rest, tiles[k:]); len(rest.Tiles) != 0 {
				t.Fatalf("without all tiles the assembly is %v", rest)
			}
		}
	}
}

// TestPartsInAnyOrder joins the parts of assemblies again: in all orders if they are few.
func TestPartsInAnyOrder(t *testing.T) {
	list := formedAssemblies()
	for n := range uint64(100) {
		list = append(list, drawAssembly(5000+n))
	}
	for i, a := range list {
		parts := impl.PartsOf(a)
		orders := [][]int{drawnOrder(uint64(i), len(parts)), drawnOrder(uint64(i)+1000, len(parts))}
		if len(parts) <= 4 {
			orders = permutations(len(parts))
		} else if len(parts) > 100 {
			orders = orders[:1]
		}
		for _, order := range orders {
			if got := joinAll(t, inOrder(parts, order)); !equalAssemblies(got, a) {
				t.Fatalf("the parts of %v are joined to %v", a, got)
			}
		}
		checkSeparate(t, a, parts)
	}
}

// checkSeparate checks that parts are within the whole, connected, and not next to each other.
func checkSeparate(t *testing.T, whole impl.Assembly, parts []impl.Assembly) {
	t.Helper()
	partAt := map[impl.Point]int{}
	for i, part := range parts {
		if len(part.Tiles) == 0 || !impl.IsWithin(part, whole) {
			t.Fatalf("the part %v is empty or not within %v", part, whole)
		}
		if again := impl.PartsOf(part); len(again) != 1 || !equalAssemblies(again[0], part) {
			t.Fatalf("the part %v has the parts %v", part, again)
		}
		for _, x := range part.Tiles {
			if _, ok := partAt[x.At]; ok {
				t.Fatalf("two parts of %v have a tile at %v", whole, x.At)
			}
			partAt[x.At] = i
		}
	}
	for p, i := range partAt {
		for dir := range int64(4) {
			step := stepOf(dir)
			if j, ok := partAt[impl.Point{X: p.X + step.X, Y: p.Y + step.Y}]; ok && j != i {
				t.Fatalf("the parts %d and %d of %v are next to each other at %v", i, j, whole, p)
			}
		}
	}
}

// TestJoinLaws joins assemblies that do not clash: the order and the grouping do not matter, nor how often each one is joined.
func TestJoinLaws(t *testing.T) {
	whole := rowsAssembly(impl.Point{X: -12, Y: -10}, 25, 500)
	for n := range uint64(150) {
		var pieces []impl.Assembly
		seed := n*31 + 7
		for range 3 {
			var piece impl.Assembly
			for _, x := range whole.Tiles {
				if nextNumber(&seed, 6)%int64(2+n%9) == 0 {
					piece.Tiles = append(piece.Tiles, x)
				}
			}
			pieces = append(pieces, piece)
		}
		want := joinAll(t, pieces)
		for _, order := range permutations(3) {
			list := inOrder(pieces, order)
			right := joinAll(t, []impl.Assembly{list[0], joinAll(t, list[1:])})
			twice := joinAll(t, append(slices.Clone(list), list...))
			for _, got := range []impl.Assembly{joinAll(t, list), right, twice} {
				if !equalAssemblies(got, want) {
					t.Fatalf("%v are joined to %v and to %v", list, want, got)
				}
			}
		}
		for _, piece := range pieces {
			if !impl.IsWithin(piece, want) || !equalAssemblies(joinAll(t, []impl.Assembly{want, piece}), want) {
				t.Fatalf("%v is not within %v", piece, want)
			}
		}
		checkCounts(t, pieces[0], takeAll(t, want, pieces[0].Tiles), want)
	}
}

// checkCounts checks that an assembly and the rest have the points and tiles of the whole.
func checkCounts(t *testing.T, piece, rest, whole impl.Assembly) {
	t.Helper()
	set := countedSet("g", 3, 160)
	counts, _ := impl.CountTiles(set, piece)
	others, _ := impl.CountTiles(set, rest)
	for i := range counts {
		counts[i] += others[i]
	}
	if all, code := impl.CountTiles(set, whole); fmt.Sprint(all) != fmt.Sprint(counts) || code != impl.OK {
		t.Fatalf("the whole has the counts %v, the pieces %v", all, counts)
	}
	if got := joinAll(t, []impl.Assembly{rest, piece}); !equalAssemblies(got, whole) || len(impl.PointsOf(got)) != len(piece.Tiles)+len(rest.Tiles) {
		t.Fatalf("%v and the rest are joined to %v", piece, got)
	}
}

// TestJoinMoved checks that moving and joining can be exchanged.
func TestJoinMoved(t *testing.T) {
	for n := range uint64(200) {
		a, b := drawAssembly(3*n), drawAssembly(3*n+1)
		joined, joinCode := impl.JoinAssemblies(a, b)
		for _, by := range []impl.Point{{X: 1}, {Y: -1}, {X: -7, Y: 9}} {
			movedA, codeA := impl.MoveAssembly(a, by)
			movedB, codeB := impl.MoveAssembly(b, by)
			if codeA != impl.OK || codeB != impl.OK {
				continue
			}
			got, code := impl.JoinAssemblies(movedA, movedB)
			if joinCode != impl.OK {
				checkAssembly(t, "JoinAssemblies of moved assemblies", got, code, impl.Assembly{}, joinCode)
				continue
			}
			want, wantCode := impl.MoveAssembly(joined, by)
			checkAssembly(t, "JoinAssemblies of moved assemblies", got, code, want, wantCode)
		}
	}
}
