package tests

import (
	"fmt"
	"slices"
	"testing"

	"loop.example/g01081/impl"
)

func TestBondsOf(t *testing.T) {
	count := 0
	for _, x := range tilings() {
		want := bondsIn(x.set, x.a)
		list, code := impl.BondsOf(x.set, x.a)
		checkBondList(t, fmt.Sprintf("BondsOf(%v, %v)", x.set, x.a), list, code, want)
		count += len(want)
	}
	if count < 10000 {
		t.Error("there are only so many bonds:", count)
	}
}

func TestMismatchesOf(t *testing.T) {
	count := 0
	for _, x := range tilings() {
		want := mismatchesIn(x.set, x.a)
		list, code := impl.MismatchesOf(x.set, x.a)
		checkBondList(t, fmt.Sprintf("MismatchesOf(%v, %v)", x.set, x.a), list, code, want)
		count += len(want)
	}
	if count < 10000 {
		t.Error("there are only so many mismatches:", count)
	}
}

// TestBondsOfExample has the example of chapter 6.
func TestBondsOfExample(t *testing.T) {
	a, exchanged := assembly(placed(0, 0, 0), placed(1, 0, 1)), assembly(placed(0, 0, 1), placed(1, 0, 0))
	list, code := impl.BondsOf(pairSet(), a)
	checkBondList(t, "BondsOf", list, code, []impl.Bond{{A: 0, B: 1, Strength: 2}})
	list, code = impl.MismatchesOf(pairSet(), a)
	checkBondList(t, "MismatchesOf", list, code, nil)
	list, code = impl.BondsOf(pairSet(), exchanged)
	checkBondList(t, "BondsOf of exchanged tiles", list, code, nil)
	list, code = impl.MismatchesOf(pairSet(), exchanged)
	checkBondList(t, "MismatchesOf of exchanged tiles", list, code, nil)
}

// twoSides is a set of two tiles with two glues on the sides that touch if the second one is next to the first one in a direction, and a third glue on all others.
func twoSides(dir, g, h, other int64) impl.TileSet {
	set := impl.TileSet{
		Glues: []impl.Glue{glue("a", 3), glue("b", 3), glue("c", 4), glue("d", 1)},
		Tiles: []impl.Tile{tile("x", other, other, other, other), tile("y", other, other, other, other)},
	}
	set.Tiles[0].Sides[dir] = g
	set.Tiles[1].Sides[(dir+2)%4] = h
	return set
}

// TestTouchingSides has all pairs of glues, and of none, on the sides of two tiles that touch: equal glues make a bond, others a mismatch, and two sides without a glue neither.
func TestTouchingSides(t *testing.T) {
	strengths := []int64{0, 3, 3, 4, 1}
	for _, at := range []impl.Point{{}, {X: -60, Y: -60}, {X: 59, Y: 59}, {X: -60, Y: 59}, {X: 59, Y: -60}, {X: 7, Y: -3}} {
		for dir := range int64(4) {
			step := stepOf(dir)
			a := assemblyOf(map[impl.Point]int64{{X: at.X + max(-step.X, 0), Y: at.Y + max(-step.Y, 0)}: 0, {X: at.X + max(step.X, 0), Y: at.Y + max(step.Y, 0)}: 1})
			for n := range int64(5 * 5 * 5) {
				g, h, other := n%5, n/5%5, n/25
				var bonds, mismatches []impl.Bond
				switch {
				case g != h:
					mismatches = []impl.Bond{{A: 0, B: 1}}
				case g > 0:
					bonds = []impl.Bond{{A: 0, B: 1, Strength: strengths[g]}}
				}
				set := twoSides(dir, g, h, other)
				list, code := impl.BondsOf(set, a)
				checkBondList(t, fmt.Sprintf("BondsOf(%v, %v)", set, a), list, code, bonds)
				list, code = impl.MismatchesOf(set, a)
				checkBondList(t, fmt.Sprintf("MismatchesOf(%v, %v)", set, a), list, code, mismatches)
			}
		}
	}
}

// TestNotTouching has two tiles that are not next to each other, though their glues would fit, or would not.
func TestNotTouching(t *testing.T) {
	strong := strongSet()
	strong.Tiles = append(strong.Tiles, tile("y", 0, 0, 0, 0))
	apart := [][2]impl.Point{
		{{}, {X: 1, Y: 1}}, {{X: 1}, {Y: 1}}, {{}, {X: 2}}, {{}, {Y: 2}}, {{X: 2}, {Y: 1}}, {{}, {X: 2, Y: 1}}, {{}, {X: 1, Y: 2}},
		{{X: 60}, {X: -60, Y: 1}}, {{X: -60}, {X: 60}}, {{Y: -60}, {Y: 60}}, {{X: 60, Y: -60}, {X: 60, Y: 60}}, {{X: 60, Y: -1}, {X: -60}}, {{X: -60, Y: -60}, {X: 60, Y: 60}},
	}
	for _, points := range apart {
		for second := range int64(2) {
			a := assembly(impl.Placed{At: points[0]}, impl.Placed{At: points[1], Tile: second})
			list, code := impl.BondsOf(strong, a)
			checkBondList(t, fmt.Sprint("BondsOf ", a), list, code, nil)
			list, code = impl.MismatchesOf(strong, a)
			checkBondList(t, fmt.Sprint("MismatchesOf ", a), list, code, nil)
		}
	}
}

// TestBondsOrder has assemblies of which all tiles next to each other are known, once with bonds and once with mismatches between all of them.
func TestBondsOrder(t *testing.T) {
	cases := []struct {
		shape string
		pairs [][2]int64
	}{
		{"##/##", [][2]int64{{0, 1}, {0, 2}, {1, 3}, {2, 3}}},
		{"###/###", [][2]int64{{0, 1}, {0, 3}, {1, 2}, {1, 4}, {2, 5}, {3, 4}, {4, 5}}},
		{"##/##/##", [][2]int64{{0, 1}, {0, 2}, {1, 3}, {2, 3}, {2, 4}, {3, 5}, {4, 5}}},
		{".#./###/.#.", [][2]int64{{0, 2}, {1, 2}, {2, 3}, {2, 4}}},
		{"###/#.#/###", [][2]int64{{0, 1}, {0, 3}, {1, 2}, {2, 4}, {3, 5}, {4, 7}, {5, 6}, {6, 7}}},
		{"#.#/###/..#", [][2]int64{{0, 3}, {1, 2}, {1, 4}, {2, 3}, {3, 5}}},
		{"..#/###/#..", [][2]int64{{0, 1}, {1, 2}, {2, 3}, {3, 4}}},
		{"####", [][2]int64{{0, 1}, {1, 2}, {2, 3}}}, {"#/#/#/#", [][2]int64{{0, 1}, {1, 2}, {2, 3}}},
		{"#.#/.#./#.#", nil}, {"#.#.#", nil}, {"#", nil},
	}
	unlike := strongSet()
	unlike.Glues = append(unlike.Glues, glue("b", 4))
	unlike.Tiles[0].Sides = []int64{1, 1, 2, 0}
	for _, c := range cases {
		var a impl.Assembly
		for _, p := range shapeOf(c.shape) {
			a.Tiles = append(a.Tiles, impl.Placed{At: p})
		}
		var bonds, mismatches []impl.Bond
		for _, pair := range c.pairs {
			bonds = append(bonds, impl.Bond{A: pair[0], B: pair[1], Strength: 4})
			mismatches = append(mismatches, impl.Bond{A: pair[0], B: pair[1]})
		}
		list, code := impl.BondsOf(strongSet(), a)
		checkBondList(t, "BondsOf "+c.shape, list, code, bonds)
		list, code = impl.MismatchesOf(strongSet(), a)
		checkBondList(t, "MismatchesOf fitting tiles "+c.shape, list, code, nil)
		list, code = impl.MismatchesOf(unlike, a)
		checkBondList(t, "MismatchesOf "+c.shape, list, code, mismatches)
		list, code = impl.BondsOf(unlike, a)
		checkBondList(t, "BondsOf unlike tiles "+c.shape, list, code, nil)
	}
}

// TestBondsAndMismatches says that tiles next to each other have a bond, mismatch, or have no glue where they touch.
func TestBondsAndMismatches(t *testing.T) {
	kinds := [3]int{}
	for _, x := range tilings() {
		bonds, _ := impl.BondsOf(x.set, x.a)
		mismatches, _ := impl.MismatchesOf(x.set, x.a)
		for _, y := range touchesIn(x.a) {
			isPair := func(b impl.Bond) bool { return b.A == y.a && b.B == y.b }
			bond, mismatch := slices.ContainsFunc(bonds, isPair), slices.ContainsFunc(mismatches, isPair)
			g, h := x.set.Tiles[x.a.Tiles[y.a].Tile].Sides[y.dir], x.set.Tiles[x.a.Tiles[y.b].Tile].Sides[(y.dir+2)%4]
			if bond != (g == h && g > 0) || mismatch != (g != h) {
				t.Fatalf("a bond: %t, a mismatch: %t of the glues %d and %d in %v", bond, mismatch, g, h, x)
			}
			switch {
			case bond:
				kinds[0]++
			case mismatch:
				kinds[1]++
			default:
				kinds[2]++
			}
		}
	}
	if slices.Min(kinds[:]) < 500 {
		t.Error("so many bonds, mismatches, and sides without glues:", kinds)
	}
}

// TestBondsMoved says that bonds and mismatches do not depend on where an assembly is.
func TestBondsMoved(t *testing.T) {
	for _, x := range smallTilings() {
		bonds, _ := impl.BondsOf(x.set, x.a)
		mismatches, _ := impl.MismatchesOf(x.set, x.a)
		for _, by := range []impl.Point{{X: 1}, {Y: -1}, {X: -50, Y: 43}, {X: 60, Y: 60}, {X: -60, Y: -60}} {
			moved, code := impl.MoveAssembly(x.a, by)
			if code != impl.OK {
				continue
			}
			list, code := impl.BondsOf(x.set, moved)
			checkBondList(t, fmt.Sprint("BondsOf ", moved), list, code, bonds)
			list, code = impl.MismatchesOf(x.set, moved)
			checkBondList(t, fmt.Sprint("MismatchesOf ", moved), list, code, mismatches)
		}
	}
}

// TestFullBonds has as many bonds, and as many mismatches, as an assembly may have: 500 tiles in 20 rows.
func TestFullBonds(t *testing.T) {
	a := withinSet(strongSet(), rowsAssembly(impl.Point{X: -12, Y: -10}, 25, 500))
	list, code := impl.BondsOf(strongSet(), a)
	if len(list) != 24*20+25*19 || code != impl.OK || list[0] != (impl.Bond{A: 0, B: 1, Strength: 4}) || list[1] != (impl.Bond{A: 0, B: 25, Strength: 4}) || list[954] != (impl.Bond{A: 498, B: 499, Strength: 4}) {
		t.Error("BondsOf 500 tiles is", list, code)
	}
	unlike := strongSet()
	unlike.Tiles[0].Sides = []int64{0, 0, 1, 1}
	list, code = impl.MismatchesOf(unlike, a)
	if len(list) != 24*20+25*19 || code != impl.OK || list[0] != (impl.Bond{A: 0, B: 1}) || list[1] != (impl.Bond{A: 0, B: 25}) || list[954] != (impl.Bond{A: 498, B: 499}) {
		t.Error("MismatchesOf 500 tiles is", list, code)
	}
}
