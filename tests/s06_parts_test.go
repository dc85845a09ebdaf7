package tests

import (
	"fmt"
	"slices"
	"testing"

	"loop.example/g01081/impl"
)

func checkBondedParts(t *testing.T, x tiling) [][]int64 {
	t.Helper()
	want := bondedIn(bondsIn(x.set, x.a), len(x.a.Tiles))
	parts, code := impl.BondedParts(x.set, x.a)
	if !slices.EqualFunc(parts, want, slices.Equal) || code != impl.OK {
		t.Fatalf("BondedParts(%v, %v) is %v, %d, not %v", x.set, x.a, parts, code, want)
	}
	return parts
}

func TestBondedParts(t *testing.T) {
	sizes := map[int]int{}
	for _, x := range tilings() {
		for _, part := range checkBondedParts(t, x) {
			sizes[min(len(part), 9)]++
		}
	}
	for size := 1; size <= 9; size++ {
		if sizes[size] == 0 {
			t.Error("no parts of so many tiles:", size)
		}
	}
}

// sidedSet has a tile for each set of sides, with the same glue on them: the tile n has it in the direction dir if the bit dir of n is 1.
func sidedSet() impl.TileSet {
	set := impl.TileSet{Glues: []impl.Glue{glue("a", 1)}}
	for n := range int64(16) {
		set.Tiles = append(set.Tiles, tile(fmt.Sprint("t", n), n&1, n>>1&1, n>>2&1, n>>3&1))
	}
	return set
}

// Tiles of sidedSet are numbered by the sums of these.
const (
	toNorth = 1
	toEast  = 2
	toSouth = 4
	toWest  = 8
)

// TestBondedPartsTable has bonds round corners and in rings, and tiles that touch without a bond.
func TestBondedPartsTable(t *testing.T) {
	const all = toNorth + toEast + toSouth + toWest
	// Rows from south to north.
	cases := []struct {
		rows [][]int64
		want string
	}{
		{nil, "[]"}, {[][]int64{{all}}, "[[0]]"}, {[][]int64{{toEast, toWest}}, "[[0 1]]"}, {[][]int64{{toWest, toEast}}, "[[0] [1]]"},
		{[][]int64{{toEast, 0}}, "[[0] [1]]"}, {[][]int64{{0, toWest}}, "[[0] [1]]"}, {[][]int64{{0, 0}}, "[[0] [1]]"},
		{[][]int64{{toNorth}, {toSouth}}, "[[0 1]]"}, {[][]int64{{toSouth}, {toNorth}}, "[[0] [1]]"}, {[][]int64{{toNorth}, {0}}, "[[0] [1]]"},
		// Round a corner: the first two tiles touch without a bond, and are connected by the others.
		{[][]int64{{toNorth, toNorth}, {toSouth + toEast, toSouth + toWest}}, "[[0 1 2 3]]"},
		{[][]int64{{toNorth + toEast, toWest}, {toSouth, 0}}, "[[0 1 2] [3]]"},
		{[][]int64{{0, toNorth}, {toEast, toSouth + toWest}}, "[[0] [1 2 3]]"},
		{[][]int64{{toNorth, toNorth}, {toSouth, toSouth}}, "[[0 2] [1 3]]"},
		{[][]int64{{toEast, toWest}, {toEast, toWest}}, "[[0 1] [2 3]]"},
		{[][]int64{{toNorth, 0, toNorth}, {toNorth + toSouth, 0, toNorth + toSouth}, {toSouth + toEast, toEast + toWest, toSouth + toWest}}, "[[0 2 3 5 6 7 8] [1] [4]]"},
		{[][]int64{{all, all, all}, {all, 0, all}, {all, all, all}}, "[[0 1 2 3 5 6 7 8] [4]]"},
		{[][]int64{{0, 0, 0}, {0, all, 0}, {0, 0, 0}}, "[[0] [1] [2] [3] [4] [5] [6] [7] [8]]"},
		{[][]int64{{0, all, 0}, {all, all, all}, {0, all, 0}}, "[[0] [1 3 4 5 7] [2] [6] [8]]"},
		// Three columns that are connected from the last one to the first one.
		{[][]int64{{toNorth, toNorth, toNorth}, {toSouth, toSouth + toEast, toSouth + toWest}}, "[[0 3] [1 2 4 5]]"},
		{[][]int64{{toNorth, toNorth, toNorth}, {toNorth + toSouth, toSouth + toEast, toSouth + toWest}, {toSouth, 0, 0}}, "[[0 3 6] [1 2 4 5] [7] [8]]"},
		// A spiral whose inner end comes before its middle.
		{[][]int64{{toEast, toEast + toWest, toEast + toWest, toWest + toNorth}, {toNorth, toEast, toWest, toSouth + toNorth}, {toSouth + toEast, toEast + toWest, toEast + toWest, toWest + toSouth}}, "[[0 1 2 3 4 7 8 9 10 11] [5 6]]"},
	}
	for _, c := range cases {
		var a impl.Assembly
		for y, row := range c.rows {
			for x, n := range row {
				a.Tiles = append(a.Tiles, placed(int64(x), int64(y), n))
			}
		}
		if parts, code := impl.BondedParts(sidedSet(), a); fmt.Sprint(parts) != c.want || code != impl.OK {
			t.Errorf("BondedParts of %v is %v, %d, not %s", c.rows, parts, code, c.want)
		}
		checkBondedParts(t, tiling{sidedSet(), a})
	}
}

// TestBondedPartsLarge has 500 tiles in one part, though bonds lead to and fro, or in a part each.
func TestBondedPartsLarge(t *testing.T) {
	for _, x := range largeTilings() {
		checkBondedParts(t, x)
	}
	comb := impl.Assembly{}
	for y := range int64(20) {
		for x := range int64(25) {
			n := int64(toNorth + toSouth)
			if y == 19 {
				n = toSouth + toEast + toWest
			}
			comb.Tiles = append(comb.Tiles, placed(x-12, y-60, n))
		}
	}
	if parts := checkBondedParts(t, tiling{sidedSet(), comb}); len(parts) != 1 || len(parts[0]) != 500 {
		t.Error("the parts of a comb are", parts)
	}
	for i := range comb.Tiles[475:] {
		comb.Tiles[475+i].Tile = toSouth
	}
	if parts := checkBondedParts(t, tiling{sidedSet(), comb}); len(parts) != 25 || len(parts[24]) != 20 {
		t.Error("the parts of the teeth of a comb are", parts)
	}
}

// TestBondedPartsMerged says that equal tiles with glues on all sides are connected by bonds where they touch, and tiles without glues are not.
func TestBondedPartsMerged(t *testing.T) {
	for _, a := range formedAssemblies() {
		var want []impl.Assembly
		parts, code := impl.BondedParts(strongSet(), withinSet(strongSet(), a))
		for _, part := range parts {
			want = append(want, takenOf(a, part))
		}
		if got := impl.PartsOf(a); !slices.EqualFunc(got, want, equalAssemblies) || code != impl.OK {
			t.Fatalf("BondedParts of %v is %v, %d, and PartsOf is %v", a, parts, code, got)
		}
		if parts, code := impl.BondedParts(bareSet(strongSet()), withinSet(strongSet(), a)); len(parts) != len(a.Tiles) || code != impl.OK {
			t.Fatalf("BondedParts of %v without glues is %v, %d", a, parts, code)
		}
	}
}

func TestCutStrength(t *testing.T) {
	sum := int64(0)
	for _, x := range tilings() {
		bonds := bondsIn(x.set, x.a)
		for _, part := range somePartsOf(x.a) {
			want := cutIn(bonds, part)
			n, code := impl.CutStrength(x.set, x.a, part)
			checkNumber(t, fmt.Sprintf("CutStrength(%v, %v, %v)", x.set, x.a, part), n, code, want)
			sum += n
		}
	}
	if sum < 10000 {
		t.Error("all cuts together have only the strength", sum)
	}
}

// TestCutStrengthExample has the example of chapter 6, and other cuts that are known.
func TestCutStrengthExample(t *testing.T) {
	pair := assembly(placed(0, 0, 0), placed(1, 0, 1))
	block := withinSet(strongSet(), rowsAssembly(impl.Point{}, 3, 9))
	full := withinSet(strongSet(), rowsAssembly(impl.Point{X: -12, Y: -10}, 25, 500))
	var chess []int64
	for i := range int64(250) {
		chess = append(chess, 2*i)
	}
	cases := []struct {
		set  impl.TileSet
		a    impl.Assembly
		part []int64
		want int64
	}{
		{pairSet(), pair, []int64{0}, 2}, {pairSet(), pair, []int64{0, 1}, 0}, {pairSet(), pair, []int64{1}, 2}, {pairSet(), pair, nil, 0}, {pairSet(), pair, []int64{}, 0},
		{pairSet(), impl.Assembly{}, nil, 0}, {pairSet(), assembly(placed(0, 0, 0)), []int64{0}, 0},
		{strongSet(), block, []int64{4}, 16}, {strongSet(), block, []int64{0}, 8}, {strongSet(), block, []int64{0, 1, 2}, 12}, {strongSet(), block, []int64{0, 3, 6}, 12},
		{strongSet(), block, []int64{0, 2, 4, 6, 8}, 48}, {strongSet(), block, []int64{1, 3, 5, 7}, 48}, {strongSet(), block, []int64{0, 1, 2, 3, 5, 6, 7, 8}, 16},
		{strongSet(), full, chess, 3820}, {strongSet(), full, []int64{499}, 8}, {strongSet(), full, []int64{0, 499}, 16}, {strongSet(), full, allPlaces(full), 0},
	}
	for _, c := range cases {
		n, code := impl.CutStrength(c.set, c.a, c.part)
		checkNumber(t, fmt.Sprintf("CutStrength of %v in %v", c.part, c.a), n, code, c.want)
	}
}

func TestSubAssembly(t *testing.T) {
	list := formedAssemblies()
	for i, a := range list {
		if len(a.Tiles) == 0 && i > 2 {
			continue
		}
		for _, part := range somePartsOf(a) {
			sub, code := impl.SubAssembly(a, part)
			if want := takenOf(a, part); !equalAssemblies(sub, want) || code != impl.OK {
				t.Fatalf("SubAssembly(%v, %v) is %v, %d, not %v", a, part, sub, code, want)
			}
		}
	}
	all := assembly(placed(0, 0, 159), placed(1, 0, 0), placed(0, 1, 77))
	if sub, code := impl.SubAssembly(all, []int64{0, 2}); fmt.Sprint(sub) != "{[{{0 0} 159} {{0 1} 77}]}" || code != impl.OK {
		t.Error("SubAssembly is", sub, code)
	}
}

// TestWrongParts has lists that are no parts: the functions return ErrRange and zero values.
func TestWrongParts(t *testing.T) {
	list := []tiling{{pairSet(), impl.Assembly{}}, {pairSet(), assembly(placed(0, 0, 0))}, {pairSet(), assembly(placed(0, 0, 0), placed(1, 0, 1))}}
	for _, x := range []impl.Assembly{plainAssembly(), rowsAssembly(impl.Point{X: -12, Y: -10}, 25, 499), rowsAssembly(impl.Point{X: -12, Y: -10}, 25, 500)} {
		list = append(list, tiling{strongSet(), withinSet(strongSet(), x)}, tiling{countedSet("g", 3, 160), x})
	}
	for _, x := range list {
		for _, part := range wrongParts(x.a) {
			if isPart(x.a, part) {
				t.Fatalf("%v is a part of %v", part, x.a)
			}
			if n, code := impl.CutStrength(x.set, x.a, part); n != 0 || code != impl.ErrRange {
				t.Fatalf("CutStrength of %v with %d tiles is %d, %d", part, len(x.a.Tiles), n, code)
			}
			if sub, code := impl.SubAssembly(x.a, part); len(sub.Tiles) != 0 || code != impl.ErrRange {
				t.Fatalf("SubAssembly of %v with %d tiles is %v, %d", part, len(x.a.Tiles), sub, code)
			}
		}
	}
}

// TestShortLists has all lists of up to four places from -1 to one behind the last of three tiles.
func TestShortLists(t *testing.T) {
	x := tiling{strongSet(), assembly(placed(0, 0, 0), placed(1, 0, 0), placed(0, 1, 0))}
	bonds, right := bondsIn(x.set, x.a), 0
	for _, words := range sequences([]string{"-1", "0", "1", "2", "3"}, 4) {
		var part []int64
		for _, word := range words {
			n, _ := numberIn(word)
			part = append(part, n)
		}
		n, code := impl.CutStrength(x.set, x.a, part)
		sub, subCode := impl.SubAssembly(x.a, part)
		if !isPart(x.a, part) {
			if n != 0 || code != impl.ErrRange || len(sub.Tiles) != 0 || subCode != impl.ErrRange {
				t.Errorf("CutStrength and SubAssembly of %v are %d, %d and %v, %d", part, n, code, sub, subCode)
			}
			continue
		}
		right++
		if n != cutIn(bonds, part) || code != impl.OK || !equalAssemblies(sub, takenOf(x.a, part)) || subCode != impl.OK {
			t.Errorf("CutStrength and SubAssembly of %v are %d, %d and %v, %d", part, n, code, sub, subCode)
		}
	}
	if right != 8 {
		t.Error("three tiles have so many parts:", right)
	}
}
