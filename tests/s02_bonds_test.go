package tests

import (
	"slices"
	"testing"

	"loop.example/g01081/impl"
)

// TestPairSet has the example of chapter 2.
func TestPairSet(t *testing.T) {
	set := pairSet()
	if n, code := impl.BondOf(set, 0, impl.DiEast, 1); n != 2 || code != impl.OK {
		t.Error("BondOf to the east is", n, code)
	}
	if n, code := impl.BondOf(set, 1, impl.DiEast, 0); n != 0 || code != impl.OK {
		t.Error("BondOf of the exchanged tiles is", n, code)
	}
	if n, code := impl.BondOf(set, 1, impl.DiWest, 0); n != 2 || code != impl.OK {
		t.Error("BondOf to the west is", n, code)
	}
	if n, code := impl.LonelySides(set); n != 0 || code != impl.OK {
		t.Error("LonelySides is", n, code)
	}
}

func TestFindGlueAndTile(t *testing.T) {
	others := append(wrongNames(), "none", "A", "L", "X_", "ab", "abcdefghij", "g", "g00", "g200", "g160")
	for _, set := range validSets() {
		glues, tiles := map[string]int64{}, map[string]int64{}
		names := others
		for i, g := range set.Glues {
			glues[g.Name] = int64(i + 1)
			names = append(names, g.Name, g.Name+"_", g.Name[1:])
		}
		for i, x := range set.Tiles {
			tiles[x.Name] = int64(i)
			names = append(names, x.Name, x.Name+"_", x.Name[1:])
		}
		for _, name := range names {
			want, wantOK := glues[name]
			if n, ok := impl.FindGlue(set, name); n != want || ok != wantOK {
				t.Fatalf("FindGlue(%v, %q) is %d, %t", set, name, n, ok)
			}
			want, wantOK = tiles[name]
			if n, ok := impl.FindTile(set, name); n != want || ok != wantOK {
				t.Fatalf("FindTile(%v, %q) is %d, %t", set, name, n, ok)
			}
		}
	}
}

// TestFindInvalid looks for the names that an invalid set has.
func TestFindInvalid(t *testing.T) {
	for _, faulty := range invalidSets() {
		names := []string{"a", "b", "c", "x", "g0", "t1", ""}
		for i := 0; i < 3 && i < len(faulty.set.Glues) && i < len(faulty.set.Tiles); i++ {
			names = append(names, faulty.set.Glues[i].Name, faulty.set.Tiles[i].Name)
		}
		for _, name := range names {
			if n, ok := impl.FindGlue(faulty.set, name); n != 0 || ok {
				t.Errorf("FindGlue of %q is %d, %t, though: %s", name, n, ok, faulty.why)
			}
			if n, ok := impl.FindTile(faulty.set, name); n != 0 || ok {
				t.Errorf("FindTile of %q is %d, %t, though: %s", name, n, ok, faulty.why)
			}
		}
	}
}

func TestStrengthOf(t *testing.T) {
	for _, set := range validSets() {
		for x := range int64(len(set.Tiles)) {
			for dir := range int64(4) {
				if n, code := impl.StrengthOf(set, x, dir); n != strengthIn(set, x, dir) || code != impl.OK {
					t.Fatalf("StrengthOf(%v, %d, %d) is %d, %d", set, x, dir, n, code)
				}
			}
		}
	}
}

func TestBondOf(t *testing.T) {
	bonds := 0
	for _, set := range validSets() {
		for a := range int64(len(set.Tiles)) {
			for b := range int64(len(set.Tiles)) {
				if len(set.Tiles) > 20 && (a+3*b)%29 != 0 {
					continue
				}
				for dir := range int64(4) {
					want := bondIn(set, a, dir, b)
					if n, code := impl.BondOf(set, a, dir, b); n != want || code != impl.OK {
						t.Fatalf("BondOf(%v, %d, %d, %d) is %d, %d", set, a, dir, b, n, code)
					}
					bonds += int(want)
				}
			}
		}
	}
	if bonds == 0 {
		t.Error("no tiles with a bond")
	}
}

// TestBondOfTable has glues that are equal but for their number, tiles next to themselves, and sides without glues.
func TestBondOfTable(t *testing.T) {
	set := impl.TileSet{
		Glues: []impl.Glue{glue("a", 3), glue("b", 3), glue("c", 4)},
		Tiles: []impl.Tile{tile("p", 1, 0, 2, 0), tile("q", 2, 0, 1, 0), tile("s", 1, 3, 1, 3), tile("o", 0, 0, 0, 0)},
	}
	cases := []struct{ a, dir, b, want int64 }{
		{0, impl.DiNorth, 0, 0}, {0, impl.DiNorth, 1, 3}, {0, impl.DiSouth, 1, 3}, {1, impl.DiNorth, 0, 3}, {1, impl.DiSouth, 0, 3}, {1, impl.DiNorth, 1, 0},
		{2, impl.DiNorth, 2, 3}, {2, impl.DiEast, 2, 4}, {2, impl.DiSouth, 2, 3}, {2, impl.DiWest, 2, 4},
		{2, impl.DiNorth, 0, 0}, {2, impl.DiSouth, 0, 3}, {0, impl.DiNorth, 2, 3}, {0, impl.DiSouth, 2, 0},
		{0, impl.DiEast, 1, 0}, {0, impl.DiWest, 0, 0}, {0, impl.DiEast, 2, 0}, {2, impl.DiEast, 0, 0}, {3, impl.DiEast, 3, 0}, {3, impl.DiNorth, 0, 0}, {0, impl.DiNorth, 3, 0},
	}
	for _, c := range cases {
		if n, code := impl.BondOf(set, c.a, c.dir, c.b); n != c.want || code != impl.OK {
			t.Errorf("BondOf(%d, %d, %d) is %d, %d", c.a, c.dir, c.b, n, code)
		}
	}
}

func TestTilesWith(t *testing.T) {
	for _, set := range validSets() {
		for dir := range int64(4) {
			for k := range int64(len(set.Glues) + 1) {
				var want []int64
				for x := range set.Tiles {
					if set.Tiles[x].Sides[dir] == k {
						want = append(want, int64(x))
					}
				}
				if list, code := impl.TilesWith(set, dir, k); !slices.Equal(list, want) || code != impl.OK {
					t.Fatalf("TilesWith(%v, %d, %d) is %v, %d", set, dir, k, list, code)
				}
			}
		}
	}
}

// TestBondsRange has each argument out of its range, alone and with others.
func TestBondsRange(t *testing.T) {
	for _, set := range []impl.TileSet{pairSet(), plainSet(), countedSet("g", 200, 160), countedSet("g", 0, 1)} {
		isTile := func(n int64) bool { return n >= 0 && n < int64(len(set.Tiles)) }
		isGlue := func(n int64) bool { return n >= 0 && n <= int64(len(set.Glues)) }
		isDir := func(n int64) bool { return n >= 0 && n <= 3 }
		numbers := append(edgeNumbers(), 159, 160, 161, 199, 200, 201)
		for _, m := range numbers {
			for _, n := range numbers {
				if v, code := impl.StrengthOf(set, m, n); code != rangeCode(isTile(m) && isDir(n)) || code != impl.OK && v != 0 {
					t.Errorf("StrengthOf of tile %d and direction %d is %d, %d", m, n, v, code)
				}
				if list, code := impl.TilesWith(set, m, n); code != rangeCode(isDir(m) && isGlue(n)) || code != impl.OK && len(list) != 0 {
					t.Errorf("TilesWith of direction %d and glue %d is %v, %d", m, n, list, code)
				}
				for _, dir := range []int64{-1, 0, 3, 4} {
					if v, code := impl.BondOf(set, m, dir, n); code != rangeCode(isTile(m) && isDir(dir) && isTile(n)) || code != impl.OK && v != 0 {
						t.Errorf("BondOf of tiles %d and %d and direction %d is %d, %d", m, n, dir, v, code)
					}
				}
			}
			if v, code := impl.BondOf(set, 0, m, 0); code != rangeCode(isDir(m)) || code != impl.OK && v != 0 {
				t.Errorf("BondOf of direction %d is %d, %d", m, v, code)
			}
		}
	}
}

func rangeCode(within bool) int64 {
	if within {
		return impl.OK
	}
	return impl.ErrRange
}

// TestBondsInvalid has invalid sets with arguments in their ranges and out of them.
func TestBondsInvalid(t *testing.T) {
	for _, faulty := range invalidSets() {
		for _, n := range []int64{0, 1, 2, -1, 3, 4, 161, 201, -1 << 63} {
			if v, code := impl.StrengthOf(faulty.set, n, n); v != 0 || code != impl.ErrInvalid {
				t.Errorf("StrengthOf is %d, %d, though: %s", v, code, faulty.why)
			}
			if v, code := impl.BondOf(faulty.set, n, n, n); v != 0 || code != impl.ErrInvalid {
				t.Errorf("BondOf is %d, %d, though: %s", v, code, faulty.why)
			}
			if list, code := impl.TilesWith(faulty.set, n, n); len(list) != 0 || code != impl.ErrInvalid {
				t.Errorf("TilesWith is %v, %d, though: %s", list, code, faulty.why)
			}
		}
		if n, code := impl.LonelySides(faulty.set); n != 0 || code != impl.ErrInvalid {
			t.Errorf("LonelySides is %d, %d, though: %s", n, code, faulty.why)
		}
	}
}

func TestLonelySides(t *testing.T) {
	for _, set := range validSets() {
		want := int64(0)
		for a := range int64(len(set.Tiles)) {
			for dir := range int64(4) {
				bond := strengthIn(set, a, dir) == 0
				for b := range int64(len(set.Tiles)) {
					bond = bond || bondIn(set, a, dir, b) > 0
				}
				if !bond {
					want++
				}
			}
		}
		if n, code := impl.LonelySides(set); n != want || code != impl.OK {
			t.Errorf("LonelySides(%v) is %d, %d, not %d", set, n, code, want)
		}
	}
}

func TestLonelySidesTable(t *testing.T) {
	glues := []impl.Glue{glue("a", 1), glue("b", 1)}
	cases := []struct {
		tiles []impl.Tile
		want  int64
	}{
		{[]impl.Tile{tile("x", 0, 0, 0, 0)}, 0},
		{[]impl.Tile{tile("x", 1, 0, 0, 0)}, 1},
		{[]impl.Tile{tile("x", 1, 0, 1, 0)}, 0},
		{[]impl.Tile{tile("x", 1, 0, 2, 0)}, 2},
		{[]impl.Tile{tile("x", 1, 1, 0, 0)}, 2},
		{[]impl.Tile{tile("x", 1, 1, 1, 0)}, 1},
		{[]impl.Tile{tile("x", 1, 2, 1, 2)}, 0},
		{[]impl.Tile{tile("x", 1, 2, 2, 1)}, 4},
		{[]impl.Tile{tile("x", 2, 0, 0, 0), tile("y", 2, 0, 0, 0)}, 2},
		{[]impl.Tile{tile("x", 2, 0, 0, 0), tile("y", 2, 0, 0, 0), tile("z", 0, 0, 2, 0)}, 0},
		{[]impl.Tile{tile("x", 0, 0, 0, 2), tile("y", 0, 1, 0, 0), tile("z", 0, 2, 0, 0)}, 1},
	}
	for _, c := range cases {
		if n, code := impl.LonelySides(impl.TileSet{Glues: glues, Tiles: c.tiles}); n != c.want || code != impl.OK {
			t.Errorf("LonelySides of %v is %d, %d, not %d", c.tiles, n, code, c.want)
		}
	}
	all := countedSet("g", 200, 160)
	for i := range all.Tiles {
		all.Tiles[i] = tile(all.Tiles[i].Name, 1, 2, 3, 4)
	}
	if n, code := impl.LonelySides(all); n != 640 || code != impl.OK {
		t.Errorf("LonelySides of 640 lonely sides is %d, %d", n, code)
	}
}
