package tests

import (
	"fmt"
	"slices"
	"strings"
	"testing"

	"loop.example/g01081/impl"
)

// roomySet returns an equal set whose slices have unused capacity, filled with glues, tiles and sides.
func roomySet(set impl.TileSet) impl.TileSet {
	glues := append(slices.Clone(set.Glues), glue("spare1", 1), glue("spare2", 2), glue("spare3", 3))
	tiles := append(copySet(set).Tiles, tile("spare1", 0, 0, 0, 0), tile("spare2", 0, 0, 0, 0))
	for i := range tiles {
		count := len(tiles[i].Sides)
		tiles[i].Sides = append(tiles[i].Sides, 91, 92, 93)[:count]
	}
	return impl.TileSet{Glues: glues[:len(set.Glues)], Tiles: tiles[:len(set.Tiles)]}
}

// tightSet returns a set with as many glues and tiles whose tiles share the memory of their sides: each has those of the first one.
func tightSet(set impl.TileSet) impl.TileSet {
	tight := copySet(set)
	for i := range tight.Tiles {
		tight.Tiles[i].Sides = tight.Tiles[0].Sides
	}
	return tight
}

// watch returns a function that reports whether the sets are as they were, also in their unused capacity.
func watch(sets ...impl.TileSet) func() bool {
	var now, before []impl.TileSet
	for _, set := range sets {
		whole := impl.TileSet{Glues: set.Glues[:cap(set.Glues)], Tiles: set.Tiles[:cap(set.Tiles)]}
		now = append(now, whole, sidesSet(whole))
	}
	for _, set := range now {
		before = append(before, copySet(set))
	}
	return func() bool { return slices.EqualFunc(now, before, equalSets) }
}

// sidesSet is a set with the sides of another one, each in the same memory, with their unused capacity.
func sidesSet(set impl.TileSet) impl.TileSet {
	var sides impl.TileSet
	for _, x := range set.Tiles {
		sides.Tiles = append(sides.Tiles, impl.Tile{Sides: x.Sides[:cap(x.Sides)]})
	}
	return sides
}

// argumentSets are ordinary and invalid sets, with and without unused capacity, also such whose tiles share memory.
func argumentSets() []impl.TileSet {
	sets := []impl.TileSet{pairSet(), plainSet(), tightSet(plainSet()), {}, {Glues: []impl.Glue{}, Tiles: []impl.Tile{}}, {Tiles: []impl.Tile{{}}}}
	for _, set := range validSets()[:25] {
		sets = append(sets, roomySet(set), roomySet(tightSet(set)))
	}
	for i, faulty := range invalidSets() {
		if i%20 == 0 && len(faulty.set.Glues)+len(faulty.set.Tiles) < 1000 {
			sets = append(sets, roomySet(faulty.set))
		}
	}
	return sets
}

// setCalls are calls of every function of chapter 2 with ordinary and extreme arguments; each returns a text of its results.
func setCalls(sets []impl.TileSet) []func() string {
	var calls []func() string
	add := func(call func() string) { calls = append(calls, call) }
	numbers := []int64{0, 1, 3, 4, -1, 200, 1 << 32, -1 << 63, 1<<63 - 1}
	for i, set := range sets {
		add(func() string { return fmt.Sprint(impl.ValidSet(set)) })
		add(func() string { return fmt.Sprint(impl.MirrorSet(set)) })
		add(func() string { return fmt.Sprint(impl.TrimSet(set)) })
		add(func() string { return fmt.Sprint(impl.LonelySides(set)) })
		for _, name := range []string{"", "a", "x", "g0", "g150", "g199", "abcdefghijkl", "spare1", strings.Repeat("a", 100000)} {
			add(func() string { return fmt.Sprint(impl.FindGlue(set, name)) })
			add(func() string { return fmt.Sprint(impl.FindTile(set, name)) })
		}
		for j, n := range numbers {
			m := numbers[(i+j)%len(numbers)]
			add(func() string { return fmt.Sprint(impl.StrengthOf(set, m, n)) })
			add(func() string { return fmt.Sprint(impl.BondOf(set, m, n%4, n)) })
			add(func() string { return fmt.Sprint(impl.BondOf(set, m, m, n)) })
			add(func() string { return fmt.Sprint(impl.TilesWith(set, m, n)) })
			add(func() string { return fmt.Sprint(impl.TilesWith(set, n%4, m)) })
			add(func() string { return fmt.Sprint(impl.RotateSet(set, n)) })
		}
		for _, other := range []impl.TileSet{set, sets[(i+1)%len(sets)], sets[(i*7+1)%len(sets)], sets[len(sets)-1-i]} {
			add(func() string { return fmt.Sprint(impl.SameSet(set, other)) })
			add(func() string { return fmt.Sprint(impl.MergeSets(set, other)) })
		}
	}
	return calls
}

// TestSetsPure makes all calls again, also with equal sets in other memory.
func TestSetsPure(t *testing.T) {
	sets := argumentSets()
	var copies []impl.TileSet
	for _, set := range sets {
		copies = append(copies, copySet(set))
	}
	checkPure(t, setCalls(sets), setCalls(copies), setCalls(argumentSets()))
}

// TestSetsUnchanged checks after each call that no set has changed, not even in its unused capacity.
func TestSetsUnchanged(t *testing.T) {
	sets := argumentSets()
	for i, set := range sets {
		pair := []impl.TileSet{set, sets[(i*5+1)%len(sets)]}
		unchanged := watch(pair...)
		for j, call := range setCalls(pair) {
			call()
			if !unchanged() {
				t.Fatalf("call %d changed %v", j, pair)
			}
		}
	}
}

// TestSetsWrittenTo writes to the results of calls: the calls must return the same again.
func TestSetsWrittenTo(t *testing.T) {
	for _, set := range argumentSets() {
		for range 2 {
			for _, call := range newSetCalls(set, pairSet()) {
				result, list := call()
				want := fmt.Sprint(result, list)
				for _, piece := range piecesOf(result, list) {
					piece.write()
				}
				if result, list = call(); fmt.Sprint(result, list) != want {
					t.Fatalf("a call returned %s and then %v, %v", want, result, list)
				}
			}
		}
	}
}

// newSetCalls are calls of each function with a slice in its results.
func newSetCalls(a, b impl.TileSet) []func() (impl.TileSet, []int64) {
	calls := []func() (impl.TileSet, []int64){
		func() (impl.TileSet, []int64) { set, _ := impl.MirrorSet(a); return set, nil },
		func() (impl.TileSet, []int64) { set, _ := impl.MergeSets(a, b); return set, nil },
		func() (impl.TileSet, []int64) { set, _ := impl.MergeSets(b, a); return set, nil },
		func() (impl.TileSet, []int64) { set, _ := impl.MergeSets(a, a); return set, nil },
		func() (impl.TileSet, []int64) { set, list, _ := impl.TrimSet(a); return set, list },
	}
	for n := range int64(4) {
		calls = append(calls,
			func() (impl.TileSet, []int64) { set, _ := impl.RotateSet(a, n); return set, nil },
			func() (impl.TileSet, []int64) { list, _ := impl.TilesWith(a, n, 0); return impl.TileSet{}, list },
			func() (impl.TileSet, []int64) { list, _ := impl.TilesWith(a, n, 1); return impl.TileSet{}, list },
		)
	}
	return calls
}

// piecesOf are all slices of a result.
func piecesOf(set impl.TileSet, list []int64) []piece {
	tiles := pieceOf(set.Tiles, impl.Tile{Name: "junk"})
	tiles.show = func() string { // without the glues of the sides, which are pieces of their own
		var names []string
		for _, x := range set.Tiles {
			names = append(names, x.Name)
		}
		return fmt.Sprint(names)
	}
	pieces := []piece{pieceOf(set.Glues, glue("junk", 77)), tiles, pieceOf(list, 77)}
	for _, x := range set.Tiles {
		pieces = append(pieces, pieceOf(x.Sides, 77))
	}
	return pieces
}

// TestSetsShareNoMemory writes over each slice of a result, with its unused capacity: no argument and no other slice may change.
func TestSetsShareNoMemory(t *testing.T) {
	for i, a := range argumentSets() {
		if i > 20 && len(a.Tiles) > 20 {
			continue
		}
		for _, b := range []impl.TileSet{pairSet(), roomySet(drawSet(uint64(i)))} {
			for j, call := range newSetCalls(a, b) {
				result, list := call()
				checkPieces(t, fmt.Sprintf("call %d with %v and %v", j, a, b), piecesOf(result, list), watch(a, b))
			}
		}
	}
}
