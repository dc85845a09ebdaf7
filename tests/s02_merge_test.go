package tests

import (
	"fmt"
	"testing"

	"loop.example/g01081/impl"
)

// nameOn is the name of the glue on a side of a tile, and the empty text if it has none.
func nameOn(set impl.TileSet, x impl.Tile, dir int) string {
	if x.Sides[dir] == 0 {
		return ""
	}
	return set.Glues[x.Sides[dir]-1].Name
}

func glueOf(set impl.TileSet, name string) int64 {
	for i, g := range set.Glues {
		if g.Name == name {
			return int64(i + 1)
		}
	}
	return 0
}

func tileOf(set impl.TileSet, name string) int64 {
	for i, x := range set.Tiles {
		if x.Name == name {
			return int64(i)
		}
	}
	return -1
}

// mergedSet says what MergeSets must return for valid sets, and in which way they clash.
func mergedSet(a, b impl.TileSet) (impl.TileSet, int64, string) {
	merged := copySet(a)
	for _, g := range b.Glues {
		k := glueOf(a, g.Name)
		if k == 0 {
			merged.Glues = append(merged.Glues, g)
		} else if a.Glues[k-1].Strength != g.Strength {
			return impl.TileSet{}, impl.ErrClash, "glues clash"
		}
	}
	for _, x := range b.Tiles {
		sides := make([]int64, 4)
		index := tileOf(a, x.Name)
		for dir := range sides {
			name := nameOn(b, x, dir)
			sides[dir] = glueOf(merged, name)
			if index >= 0 && nameOn(a, a.Tiles[index], dir) != name {
				return impl.TileSet{}, impl.ErrClash, "tiles clash"
			}
		}
		if index < 0 {
			merged.Tiles = append(merged.Tiles, tile(x.Name, sides...))
		}
	}
	if len(merged.Glues) > 200 || len(merged.Tiles) > 160 {
		return impl.TileSet{}, impl.ErrFull, "full"
	}
	return merged, impl.OK, "merged"
}

// checkMerge merges two valid sets and checks all of the result; it returns in which way they could be merged or not.
func checkMerge(t *testing.T, a, b impl.TileSet) string {
	t.Helper()
	what := fmt.Sprintf("MergeSets(%v, %v)", a, b)
	want, wantCode, way := mergedSet(a, b)
	got, code := impl.MergeSets(a, b)
	if code != wantCode || !equalSets(got, want) {
		t.Errorf("%s is %v, %d, not %v, %d", what, got, code, want, wantCode)
	}
	if code != impl.OK {
		return way
	}
	for _, old := range []impl.TileSet{a, b} {
		places := make([]int64, len(old.Tiles))
		for i, x := range old.Tiles {
			places[i] = tileOf(got, x.Name)
		}
		checkBonds(t, what, old, got, places, sameDirection)
	}
	return way
}

func TestMergeSets(t *testing.T) {
	ways := map[string]int{}
	for i := range uint64(2000) {
		a, b := drawSet(2*i), drawSet(2*i+1)
		ways[checkMerge(t, a, b)]++
		ways[checkMerge(t, b, a)]++
	}
	if ways["merged"] < 300 || ways["glues clash"] < 300 || ways["tiles clash"] < 300 {
		t.Error("too few sets that can be merged, or not, in one way:", ways)
	}
}

// TestMergeSetsSame merges sets with themselves, with copies and with their bare and turned forms.
func TestMergeSetsSame(t *testing.T) {
	for _, set := range validSets() {
		for _, b := range []impl.TileSet{set, copySet(set)} {
			if got, code := impl.MergeSets(set, b); code != impl.OK || !equalSets(got, set) {
				t.Errorf("MergeSets of %v and itself is %v, %d", set, got, code)
			}
		}
		checkMerge(t, set, bareSet(set))
		checkMerge(t, bareSet(set), set)
		for quarters := int64(1); quarters <= 3; quarters++ {
			if turned, code := impl.RotateSet(set, quarters); code == impl.OK {
				checkMerge(t, set, turned)
			}
		}
	}
}

func TestMergeSetsTable(t *testing.T) {
	base := impl.TileSet{Glues: []impl.Glue{glue("a", 1), glue("b", 2)}, Tiles: []impl.Tile{tile("x", 1, 2, 0, 0), tile("y", 0, 0, 2, 1)}}
	cases := []struct {
		b    impl.TileSet
		want impl.TileSet
		code int64
	}{
		{ // other numbers, the same names
			impl.TileSet{Glues: []impl.Glue{glue("b", 2), glue("a", 1)}, Tiles: []impl.Tile{tile("y", 0, 0, 1, 2), tile("x", 2, 1, 0, 0), tile("z", 1, 2, 0, 1)}},
			impl.TileSet{Glues: base.Glues, Tiles: []impl.Tile{base.Tiles[0], base.Tiles[1], tile("z", 2, 1, 0, 2)}}, impl.OK,
		}, { // the same numbers, other names
			impl.TileSet{Glues: []impl.Glue{glue("b", 2), glue("a", 1)}, Tiles: []impl.Tile{tile("x", 1, 2, 0, 0)}}, impl.TileSet{}, impl.ErrClash,
		}, { // the same numbers, other names, which a does not have
			impl.TileSet{Glues: []impl.Glue{glue("c", 1), glue("d", 2)}, Tiles: []impl.Tile{tile("x", 1, 2, 0, 0)}}, impl.TileSet{}, impl.ErrClash,
		}, { // new glues before and after one of a, and unused ones
			impl.TileSet{Glues: []impl.Glue{glue("d", 4), glue("b", 2), glue("u", 1), glue("c", 3)}, Tiles: []impl.Tile{tile("z", 1, 2, 0, 4), tile("a", 4, 0, 1, 2)}},
			impl.TileSet{
				Glues: []impl.Glue{glue("a", 1), glue("b", 2), glue("d", 4), glue("u", 1), glue("c", 3)},
				Tiles: []impl.Tile{base.Tiles[0], base.Tiles[1], tile("z", 3, 2, 0, 5), tile("a", 5, 0, 3, 2)},
			}, impl.OK,
		}, { // another strength, of a glue that is on no side
			impl.TileSet{Glues: []impl.Glue{glue("c", 1), glue("b", 3)}, Tiles: []impl.Tile{tile("z", 1, 0, 0, 0)}}, impl.TileSet{}, impl.ErrClash,
		}, { // one glue less, one more, and none
			impl.TileSet{Glues: []impl.Glue{glue("a", 1), glue("b", 2)}, Tiles: []impl.Tile{tile("z", 0, 0, 0, 0), tile("x", 1, 0, 0, 0)}}, impl.TileSet{}, impl.ErrClash,
		}, {
			impl.TileSet{Glues: []impl.Glue{glue("a", 1), glue("b", 2)}, Tiles: []impl.Tile{tile("z", 0, 0, 0, 0), tile("x", 1, 2, 0, 1)}}, impl.TileSet{}, impl.ErrClash,
		}, {
			impl.TileSet{Tiles: []impl.Tile{tile("y", 0, 0, 0, 0)}}, impl.TileSet{}, impl.ErrClash,
		}, { // equal sides, another name
			impl.TileSet{Glues: base.Glues, Tiles: []impl.Tile{tile("X", 1, 2, 0, 0)}},
			impl.TileSet{Glues: base.Glues, Tiles: []impl.Tile{base.Tiles[0], base.Tiles[1], tile("X", 1, 2, 0, 0)}}, impl.OK,
		}, { // a tile with the name of a glue, and the other way round
			impl.TileSet{Glues: []impl.Glue{glue("x", 4), glue("A", 4)}, Tiles: []impl.Tile{tile("b", 2, 0, 0, 1)}},
			impl.TileSet{Glues: []impl.Glue{glue("a", 1), glue("b", 2), glue("x", 4), glue("A", 4)}, Tiles: []impl.Tile{base.Tiles[0], base.Tiles[1], tile("b", 4, 0, 0, 3)}}, impl.OK,
		},
	}
	for _, c := range cases {
		if got, code := impl.MergeSets(base, c.b); code != c.code || !equalSets(got, c.want) {
			t.Errorf("MergeSets with %v is %v, %d, not %v, %d", c.b, got, code, c.want, c.code)
		}
		checkMerge(t, base, c.b)
		checkMerge(t, c.b, base)
	}
}

// limitSet has the glues and tiles with the numbers from the first to before the last one; its tiles have glues by name, if it has them.
func limitSet(firstGlue, lastGlue, firstTile, lastTile int) impl.TileSet {
	var set impl.TileSet
	for i := firstGlue; i < lastGlue; i++ {
		set.Glues = append(set.Glues, glue(fmt.Sprint("g", i), int64(1+i%4)))
	}
	for i := firstTile; i < lastTile; i++ {
		side := int64(0)
		if 100 < lastGlue && firstGlue <= 100 {
			side = int64(101 - firstGlue)
		}
		set.Tiles = append(set.Tiles, tile(fmt.Sprint("t", i), 0, side, 0, side*int64(i%2)))
	}
	return set
}

// TestMergeSetsLimits merges to exactly the limits and one beyond, with disjoint sets and with sets that share glues or tiles.
func TestMergeSetsLimits(t *testing.T) {
	cases := []struct {
		a, b impl.TileSet
		code int64
	}{
		{limitSet(0, 101, 0, 1), limitSet(101, 200, 1, 2), impl.OK},
		{limitSet(0, 101, 0, 1), limitSet(101, 201, 1, 2), impl.ErrFull},
		{limitSet(0, 200, 0, 1), limitSet(100, 200, 0, 1), impl.OK},
		{limitSet(0, 200, 0, 1), limitSet(100, 201, 0, 1), impl.ErrFull},
		{limitSet(0, 200, 0, 1), limitSet(0, 200, 0, 1), impl.OK},
		{limitSet(0, 150, 0, 1), limitSet(50, 200, 0, 1), impl.OK},
		{limitSet(0, 150, 0, 1), limitSet(50, 201, 0, 1), impl.ErrFull},
		{limitSet(0, 200, 0, 1), limitSet(200, 400, 1, 2), impl.ErrFull},
		{limitSet(0, 199, 0, 1), limitSet(199, 200, 1, 2), impl.OK},
		{limitSet(0, 200, 0, 1), limitSet(200, 201, 1, 2), impl.ErrFull},
		{limitSet(0, 0, 0, 1), limitSet(0, 200, 1, 2), impl.OK},
		{limitSet(90, 110, 0, 80), limitSet(90, 110, 80, 160), impl.OK},
		{limitSet(90, 110, 0, 80), limitSet(90, 110, 80, 161), impl.ErrFull},
		{limitSet(90, 110, 0, 160), limitSet(90, 110, 0, 160), impl.OK},
		{limitSet(90, 110, 0, 160), limitSet(90, 110, 80, 160), impl.OK},
		{limitSet(90, 110, 0, 160), limitSet(90, 110, 80, 161), impl.ErrFull},
		{limitSet(90, 110, 0, 120), limitSet(95, 105, 40, 160), impl.OK},
		{limitSet(90, 110, 0, 120), limitSet(95, 105, 40, 161), impl.ErrFull},
		{limitSet(90, 110, 0, 159), limitSet(95, 105, 159, 160), impl.OK},
		{limitSet(90, 110, 0, 160), limitSet(95, 105, 160, 161), impl.ErrFull},
		{limitSet(90, 110, 0, 160), limitSet(95, 105, 160, 320), impl.ErrFull},
		{limitSet(0, 150, 0, 120), limitSet(50, 200, 40, 160), impl.OK},
		{limitSet(0, 150, 0, 120), limitSet(50, 201, 40, 160), impl.ErrFull},
		{limitSet(0, 150, 0, 120), limitSet(50, 200, 40, 161), impl.ErrFull},
		{limitSet(0, 150, 0, 120), limitSet(50, 201, 40, 161), impl.ErrFull},
	}
	for i, c := range cases {
		for _, way := range []string{checkMerge(t, c.a, c.b), checkMerge(t, c.b, c.a)} {
			if (way == "merged") != (c.code == impl.OK) || (way == "full") != (c.code == impl.ErrFull) {
				t.Errorf("case %d is wrong: %s", i, way)
			}
		}
	}
}

// TestMergeSetsOrder has sets with several errors: an invalid set comes before a clash, and a clash before too many glues or tiles.
func TestMergeSetsOrder(t *testing.T) {
	change := func(set impl.TileSet, change func(set *impl.TileSet)) impl.TileSet {
		change(&set)
		return set
	}
	otherGlue := func(set *impl.TileSet) {
		set.Glues[len(set.Glues)-1].Strength = 1 + set.Glues[len(set.Glues)-1].Strength%4
	}
	otherTile := func(set *impl.TileSet) { set.Tiles[len(set.Tiles)-1].Sides[0]++ }
	full := limitSet(0, 200, 0, 160)
	clashing := []impl.TileSet{
		change(limitSet(100, 200, 100, 160), otherGlue), change(limitSet(100, 200, 100, 160), otherTile),
		change(limitSet(100, 200, 0, 160), func(set *impl.TileSet) { otherGlue(set); set.Tiles[0].Name = "new" }),
		change(limitSet(0, 200, 0, 160), func(set *impl.TileSet) { otherGlue(set); set.Glues[0].Name = "new" }),
		change(limitSet(0, 200, 0, 160), func(set *impl.TileSet) { otherTile(set); set.Tiles[0].Name = "new" }),
		change(limitSet(0, 200, 0, 160), func(set *impl.TileSet) { otherTile(set); set.Glues[199].Name = "new" }),
		change(limitSet(0, 200, 0, 160), func(set *impl.TileSet) { otherGlue(set); otherTile(set); set.Glues[0].Name = "new" }),
	}
	for i, b := range clashing {
		for _, pair := range [][2]impl.TileSet{{full, b}, {b, full}} {
			if got, code := impl.MergeSets(pair[0], pair[1]); !isZeroSet(got) || code != impl.ErrClash {
				t.Errorf("MergeSets of case %d is %v, %d", i, got, code)
			}
		}
	}
	for _, faulty := range invalidSets() {
		for _, set := range append(clashing, full, pairSet(), plainSet(), faulty.set) {
			for _, pair := range [][2]impl.TileSet{{set, faulty.set}, {faulty.set, set}} {
				if got, code := impl.MergeSets(pair[0], pair[1]); !isZeroSet(got) || code != impl.ErrInvalid {
					t.Fatalf("MergeSets is %v, %d, though: %s", got, code, faulty.why)
				}
			}
		}
	}
}
