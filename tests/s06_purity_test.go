package tests

import (
	"fmt"
	"slices"
	"testing"

	"loop.example/g01081/impl"
)

// bondSets are sets of all sizes, with and without bonds, valid and not.
func bondSets() []impl.TileSet {
	return append(callSets(), roomySet(strongSet()), tightSet(bondingSet(4)), roomySet(countedSet("g", 1, 160)))
}

// argumentParts are parts of an assembly and lists that are none, in memory with unused capacity.
func argumentParts(a impl.Assembly) [][]int64 {
	parts := append(somePartsOf(a), wrongParts(a)[:4]...)
	if len(parts) > 24 {
		parts = append(parts[:12:12], parts[len(parts)-12:]...)
	}
	for i, part := range parts {
		parts[i] = append(slices.Clone(part), 0, 1, 77, -1)[:len(part)]
	}
	return parts
}

// watchLists returns a function that reports whether the lists are as they were, also in their unused capacity.
func watchLists(lists [][]int64) func() bool {
	var now, before [][]int64
	for _, list := range lists {
		now = append(now, list[:cap(list)])
		before = append(before, slices.Clone(list[:cap(list)]))
	}
	return func() bool { return slices.EqualFunc(now, before, slices.Equal) }
}

// bondCalls are calls of every function of chapter 6 with one assembly and parts of it; each returns a text of its results.
func bondCalls(sets []impl.TileSet, a impl.Assembly, parts [][]int64) []func() string {
	var calls []func() string
	add := func(call func() string) { calls = append(calls, call) }
	for _, part := range parts {
		add(func() string { return fmt.Sprint(impl.SubAssembly(a, part)) })
	}
	for _, set := range sets {
		add(func() string { return fmt.Sprint(impl.BondsOf(set, a)) })
		add(func() string { return fmt.Sprint(impl.MismatchesOf(set, a)) })
		add(func() string { return fmt.Sprint(impl.BindingsOf(set, a)) })
		add(func() string { return fmt.Sprint(impl.TotalStrength(set, a)) })
		add(func() string { return fmt.Sprint(impl.BondedParts(set, a)) })
		for i, p := range pointsAround(endsOf(a)) {
			tile := []int64{0, 1, 0, 159, 160, -1}[i%6]
			add(func() string { return fmt.Sprint(impl.BindingAt(set, a, p, tile)) })
		}
		for _, part := range parts {
			add(func() string { return fmt.Sprint(impl.CutStrength(set, a, part)) })
		}
	}
	return calls
}

// allBondCalls are the calls for all assemblies of a list.
func allBondCalls(sets []impl.TileSet, list []impl.Assembly) []func() string {
	var calls []func() string
	for _, a := range list {
		calls = append(calls, bondCalls(sets, a, argumentParts(a))...)
	}
	return calls
}

// bondAssemblies are the argument assemblies, and the same with tiles that all sets have.
func bondAssemblies() []impl.Assembly {
	list := argumentAssemblies()
	for i, a := range argumentAssemblies() {
		if i%3 == 0 && len(a.Tiles) <= 500 {
			list = append(list, roomyAssembly(withinSet(strongSet(), a)))
		}
	}
	return list
}

// TestBondsPure makes all calls again, also with equal arguments in other memory.
func TestBondsPure(t *testing.T) {
	var list, copies []impl.Assembly
	for i, a := range bondAssemblies() {
		if i%2 == 0 || len(a.Tiles) < 100 {
			list, copies = append(list, a), append(copies, copyAssembly(a))
		}
	}
	var sets []impl.TileSet
	for _, set := range bondSets() {
		sets = append(sets, copySet(set))
	}
	checkPure(t, allBondCalls(bondSets(), list), allBondCalls(sets, copies))
}

// TestBondsUnchanged checks after each call that no set, no assembly and no part has changed, not even in its unused capacity.
func TestBondsUnchanged(t *testing.T) {
	sets := bondSets()
	setsKept := watch(sets...)
	for _, a := range bondAssemblies() {
		parts := argumentParts(a)
		tilesKept, partsKept := watchTiles(a), watchLists(parts)
		for i, call := range bondCalls(sets, a, parts) {
			call()
			if !tilesKept() || !partsKept() {
				t.Fatalf("call %d changed %v or one of %v", i, a, parts)
			}
			if i%40 == 0 && !setsKept() {
				t.Fatalf("one of the calls before call %d changed a set", i)
			}
		}
	}
	if !setsKept() {
		t.Fatal("a call changed a set")
	}
}

// listPieces are all slices of a list of lists.
func listPieces(lists [][]int64) []piece {
	outer := pieceOf(lists, []int64{77})
	outer.show = func() string { // without the numbers, which are in pieces of their own
		var sizes []int
		for _, list := range lists {
			sizes = append(sizes, len(list))
		}
		return fmt.Sprint(sizes)
	}
	pieces := []piece{outer}
	for _, list := range lists {
		pieces = append(pieces, pieceOf(list, 77))
	}
	return pieces
}

// bondSlices are calls of each function with slices in its results; each returns these slices and a text of all.
func bondSlices(set impl.TileSet, a impl.Assembly, part []int64) []func() ([]piece, string) {
	bonds := func(list []impl.Bond, code int64) ([]piece, string) {
		return []piece{pieceOf(list, impl.Bond{A: 7, B: 77, Strength: 777})}, fmt.Sprint(list, code)
	}
	return []func() ([]piece, string){
		func() ([]piece, string) { return bonds(impl.BondsOf(set, a)) },
		func() ([]piece, string) { return bonds(impl.MismatchesOf(set, a)) },
		func() ([]piece, string) {
			list, code := impl.BindingsOf(set, a)
			return []piece{pieceOf(list, 77)}, fmt.Sprint(list, code)
		},
		func() ([]piece, string) {
			parts, code := impl.BondedParts(set, a)
			return listPieces(parts), fmt.Sprint(parts, code)
		},
		func() ([]piece, string) {
			sub, code := impl.SubAssembly(a, part)
			return []piece{pieceOf(sub.Tiles, placed(7, 7, 77))}, fmt.Sprint(sub, code)
		},
	}
}

// TestBondsShareNoMemory writes over each slice of a result, with its unused capacity: no argument and no other slice may change, and the call must return the same again.
func TestBondsShareNoMemory(t *testing.T) {
	most := 0
	for i, a := range bondAssemblies() {
		parts := argumentParts(a)
		for j, set := range bondSets() {
			part := parts[(i+j)%len(parts)]
			if j%3 == 0 { // all tiles, in which case the whole list might be returned
				part = append(allPlaces(a), 7, 77)[:len(a.Tiles)]
			}
			setKept, tilesKept, partKept := watch(set), watchTiles(a), watchLists([][]int64{part})
			unchanged := func() bool { return setKept() && tilesKept() && partKept() }
			for k, call := range bondSlices(set, a, part) {
				pieces, want := call()
				most = max(most, len(pieces))
				if len(pieces) > 40 {
					pieces = pieces[:40]
				}
				what := fmt.Sprintf("call %d with set %d, assembly %d and %v", k, j, i, part)
				checkPieces(t, what, pieces, unchanged)
				for _, p := range pieces {
					p.write()
				}
				if _, got := call(); got != want {
					t.Fatalf("%s returned %s and then %s", what, want, got)
				}
			}
		}
	}
	if most < 500 {
		t.Error("no result has more slices than", most)
	}
}
