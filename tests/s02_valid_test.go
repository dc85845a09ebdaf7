package tests

import (
	"fmt"
	"testing"

	"loop.example/g01081/impl"
)

func TestSetConstants(t *testing.T) {
	if impl.MaxGlues != 200 || impl.MaxTiles != 160 || impl.MaxStrength != 4 {
		t.Error("wrong limits", impl.MaxGlues, impl.MaxTiles, impl.MaxStrength)
	}
}

func TestValidSet(t *testing.T) {
	for _, set := range validSets() {
		if !impl.ValidSet(set) {
			t.Errorf("ValidSet(%v) is false", set)
		}
	}
	for _, faulty := range invalidSets() {
		if impl.ValidSet(faulty.set) {
			t.Errorf("ValidSet is true, though: %s", faulty.why)
		}
	}
}

// TestValidSetStrengths tries every strength of every glue, and every glue on every side.
func TestValidSetStrengths(t *testing.T) {
	for i := range 3 {
		for strength := int64(-1); strength <= 6; strength++ {
			set := plainSet()
			set.Glues[i].Strength = strength
			if want := strength >= 1 && strength <= 4; impl.ValidSet(set) != want {
				t.Errorf("with the strength %d of glue %d ValidSet is %t", strength, i, !want)
			}
		}
		for dir := range 4 {
			for k := int64(-2); k <= 5; k++ {
				set := plainSet()
				set.Tiles[i].Sides[dir] = k
				if want := k >= 0 && k <= 3; impl.ValidSet(set) != want {
					t.Errorf("with the glue %d on side %d of tile %d ValidSet is %t", k, dir, i, !want)
				}
			}
		}
	}
}

// TestValidSetCounts has sets of every size around the limits, with tiles that have the last glue.
func TestValidSetCounts(t *testing.T) {
	for _, glues := range []int{0, 1, 2, 199, 200, 201} {
		for _, tiles := range []int{0, 1, 2, 159, 160, 161} {
			set := countedSet("g", glues, tiles)
			if tiles > 0 {
				set.Tiles[tiles-1].Sides[2] = int64(glues)
			}
			want := glues <= 200 && tiles >= 1 && tiles <= 160
			if impl.ValidSet(set) != want {
				t.Errorf("with %d glues and %d tiles ValidSet is %t", glues, tiles, !want)
			}
			if tiles > 0 {
				set.Tiles[tiles-1].Sides[2]++
				if impl.ValidSet(set) {
					t.Errorf("with %d glues, of which tile %d has the one after the last one, ValidSet is true", glues, tiles-1)
				}
			}
		}
	}
}

// TestValidSetEqualNames gives each pair of glues, or of tiles, of a large set one name.
func TestValidSetEqualNames(t *testing.T) {
	const n = 40
	for i := range n {
		for j := range n {
			set := countedSet("g", n, n)
			set.Glues[i].Name = set.Glues[j].Name
			if impl.ValidSet(set) != (i == j) {
				t.Errorf("with one name for the glues %d and %d ValidSet is %t", i, j, i != j)
			}
			set = countedSet("g", n, n)
			set.Tiles[i].Name = set.Tiles[j].Name
			if impl.ValidSet(set) != (i == j) {
				t.Errorf("with one name for the tiles %d and %d ValidSet is %t", i, j, i != j)
			}
			set = countedSet("g", n, n)
			set.Tiles[i].Name = "x"
			set.Glues[j].Name = "x"
			if !impl.ValidSet(set) {
				t.Errorf("with one name for the tile %d and the glue %d ValidSet is false", i, j)
			}
		}
	}
}

func TestSameSetOfCopies(t *testing.T) {
	for _, set := range validSets() {
		if !impl.SameSet(set, set) || !impl.SameSet(set, copySet(set)) {
			t.Errorf("SameSet is false for %v and itself", set)
		}
	}
	for _, faulty := range invalidSets() {
		if !impl.SameSet(faulty.set, copySet(faulty.set)) {
			t.Errorf("SameSet is false for a set and itself, though not valid: %s", faulty.why)
		}
		if impl.SameSet(faulty.set, plainSet()) || impl.SameSet(plainSet(), faulty.set) {
			t.Errorf("SameSet is true for a valid set and another one: %s", faulty.why)
		}
	}
}

func TestSameSetPairs(t *testing.T) {
	sets := validSets()
	for i, faulty := range invalidSets() {
		if i%5 == 0 && len(faulty.set.Glues)+len(faulty.set.Tiles) < 100 {
			sets = append(sets, faulty.set)
		}
	}
	for _, a := range sets {
		for _, b := range sets {
			if want := equalSets(a, b); impl.SameSet(a, b) != want {
				t.Fatalf("SameSet(%v, %v) is %t", a, b, !want)
			}
		}
	}
}

// TestSameSetChanges changes one thing at each place of a set.
func TestSameSetChanges(t *testing.T) {
	changes := map[string]func(set *impl.TileSet, i int){
		"the name of a glue":     func(set *impl.TileSet, i int) { set.Glues[i].Name += "_" },
		"the strength of a glue": func(set *impl.TileSet, i int) { set.Glues[i].Strength += 1 << 32 },
		"the name of a tile":     func(set *impl.TileSet, i int) { set.Tiles[i].Name += "_" },
		"one side less":          func(set *impl.TileSet, i int) { set.Tiles[i].Sides = set.Tiles[i].Sides[:3] },
		"one side more":          func(set *impl.TileSet, i int) { set.Tiles[i].Sides = append(set.Tiles[i].Sides, 0) },
		"no sides":               func(set *impl.TileSet, i int) { set.Tiles[i].Sides = nil },
		"no glue after this":     func(set *impl.TileSet, i int) { set.Glues = set.Glues[:i] },
		"no tile after this":     func(set *impl.TileSet, i int) { set.Tiles = set.Tiles[:i] },
		"another order of glues": func(set *impl.TileSet, i int) {
			set.Glues[i], set.Glues[(i+1)%3] = set.Glues[(i+1)%3], set.Glues[i]
		},
		"another order of tiles": func(set *impl.TileSet, i int) {
			set.Tiles[i], set.Tiles[(i+1)%3] = set.Tiles[(i+1)%3], set.Tiles[i]
		},
	}
	for dir := range 4 {
		changes[fmt.Sprint("the glue on side ", dir)] = func(set *impl.TileSet, i int) { set.Tiles[i].Sides[dir] += 1 << 32 }
	}
	for what, change := range changes {
		for i := range 3 {
			set := plainSet()
			change(&set, i)
			if impl.SameSet(set, plainSet()) || impl.SameSet(plainSet(), set) {
				t.Errorf("SameSet is true with a change at %d: %s", i, what)
			}
			if !impl.SameSet(set, copySet(set)) {
				t.Errorf("SameSet is false for a set and itself after a change at %d: %s", i, what)
			}
		}
	}
}

// TestSameSetNil checks that nil is the same as an empty slice, at each place.
func TestSameSetNil(t *testing.T) {
	empty := []impl.TileSet{{}, {Glues: []impl.Glue{}}, {Tiles: []impl.Tile{}}, {Glues: []impl.Glue{}, Tiles: []impl.Tile{}}, {Glues: plainSet().Glues[:0], Tiles: plainSet().Tiles[:0]}}
	bare := []impl.TileSet{{Tiles: []impl.Tile{{Name: "x"}}}, {Glues: []impl.Glue{}, Tiles: []impl.Tile{{Name: "x", Sides: []int64{}}}}}
	for _, list := range [][]impl.TileSet{empty, bare} {
		for _, a := range list {
			for _, b := range list {
				if !impl.SameSet(a, b) {
					t.Errorf("SameSet(%#v, %#v) is false", a, b)
				}
			}
		}
	}
	for _, a := range empty {
		for _, b := range bare {
			if impl.SameSet(a, b) || impl.SameSet(b, a) {
				t.Errorf("SameSet is true for %v and %v", a, b)
			}
		}
	}
}
