package tests

import (
	"fmt"
	"math"
	"slices"
	"strings"

	"loop.example/g01081/impl"
)

// faultySet is a set that is not valid, with the reason.
type faultySet struct {
	why string
	set impl.TileSet
}

func glue(name string, strength int64) impl.Glue {
	return impl.Glue{Name: name, Strength: strength}
}

func tile(name string, sides ...int64) impl.Tile {
	return impl.Tile{Name: name, Sides: slices.Clone(sides)}
}

// pairSet is the set of the example of chapter 2.
func pairSet() impl.TileSet {
	return impl.TileSet{Glues: []impl.Glue{glue("a", 2)}, Tiles: []impl.Tile{tile("l", 0, 1, 0, 0), tile("r", 0, 0, 0, 1)}}
}

// plainSet is a valid set with each strength but 4, three tiles, and glues and tiles of one name.
func plainSet() impl.TileSet {
	return impl.TileSet{
		Glues: []impl.Glue{glue("a", 1), glue("b", 2), glue("c", 3)},
		Tiles: []impl.Tile{tile("c", 1, 2, 3, 0), tile("b", 3, 3, 1, 2), tile("x", 0, 0, 0, 1)},
	}
}

// countedSet is a set with so many glues and tiles, whose names begin with the prefix. All glues are on sides if there are enough sides.
func countedSet(prefix string, glues, tiles int) impl.TileSet {
	var set impl.TileSet
	for i := range glues {
		set.Glues = append(set.Glues, glue(fmt.Sprint(prefix, i), int64(1+i%4)))
	}
	for i := range tiles {
		var sides []int64
		for dir := range 4 {
			sides = append(sides, int64((4*i+3+dir*dir+i%7)%(glues+1)))
		}
		set.Tiles = append(set.Tiles, tile(fmt.Sprint(prefix, i), sides...))
	}
	return set
}

// bareSet is the set whose tiles have no glues on their sides.
func bareSet(set impl.TileSet) impl.TileSet {
	bare := impl.TileSet{Glues: slices.Clone(set.Glues)}
	for _, t := range set.Tiles {
		bare.Tiles = append(bare.Tiles, tile(t.Name, 0, 0, 0, 0))
	}
	return bare
}

// copySet returns an equal set in other memory.
func copySet(set impl.TileSet) impl.TileSet {
	result := impl.TileSet{Glues: slices.Clone(set.Glues)}
	for _, t := range set.Tiles {
		result.Tiles = append(result.Tiles, tile(t.Name, t.Sides...))
	}
	return result
}

// equalSets says what SameSet must return.
func equalSets(a, b impl.TileSet) bool {
	if len(a.Glues) != len(b.Glues) || len(a.Tiles) != len(b.Tiles) {
		return false
	}
	for i, g := range a.Glues {
		if g.Name != b.Glues[i].Name || g.Strength != b.Glues[i].Strength {
			return false
		}
	}
	for i, x := range a.Tiles {
		y := b.Tiles[i]
		if x.Name != y.Name || len(x.Sides) != len(y.Sides) {
			return false
		}
		for dir := range x.Sides {
			if x.Sides[dir] != y.Sides[dir] {
				return false
			}
		}
	}
	return true
}

func isZeroSet(set impl.TileSet) bool {
	return len(set.Glues) == 0 && len(set.Tiles) == 0
}

// strengthIn says what the strength of a side is.
func strengthIn(set impl.TileSet, tile, dir int64) int64 {
	if k := set.Tiles[tile].Sides[dir]; k > 0 {
		return set.Glues[k-1].Strength
	}
	return 0
}

// bondIn says what the strength of a bond is.
func bondIn(set impl.TileSet, a, dir, b int64) int64 {
	if set.Tiles[a].Sides[dir] == set.Tiles[b].Sides[(dir+2)%4] {
		return strengthIn(set, a, dir)
	}
	return 0
}

// validSets are small sets, sets at the limits, and sets with names and sides that are easily confused.
func validSets() []impl.TileSet {
	sets := []impl.TileSet{
		pairSet(), plainSet(), {Tiles: []impl.Tile{tile("x", 0, 0, 0, 0)}}, {Glues: []impl.Glue{}, Tiles: []impl.Tile{tile("x", 0, 0, 0, 0)}},
		{Glues: []impl.Glue{glue("x", 1)}, Tiles: []impl.Tile{tile("x", 1, 1, 1, 1)}},
		{Glues: []impl.Glue{glue("x", 4), glue("X", 1), glue("xx", 2), glue("x_", 3)}, Tiles: []impl.Tile{tile("y", 1, 2, 3, 4), tile("Y", 4, 3, 2, 1), tile("yy", 2, 1, 4, 3)}},
		{Glues: []impl.Glue{glue("abcdefghijkl", 1), glue("abcdefghijk", 1), glue("abcdefghijkm", 1), glue("bbcdefghijkl", 1)}, Tiles: []impl.Tile{tile("abcdefghijkl", 0, 0, 0, 4), tile("abcdefghijkm", 0, 0, 4, 0), tile("bbcdefghijkl", 0, 4, 0, 0)}},
		{Glues: []impl.Glue{glue("a", 3), glue("b", 3)}, Tiles: []impl.Tile{tile("p", 1, 0, 0, 0), tile("q", 0, 0, 1, 0), tile("r", 0, 0, 2, 0), tile("s", 0, 0, 0, 0), tile("t", 1, 0, 0, 0), tile("u", 0, 2, 0, 2)}},
		countedSet("g", 200, 160), countedSet("g", 200, 1), countedSet("g", 0, 160), countedSet("g", 7, 160), countedSet("g", 199, 159), bareSet(countedSet("g", 200, 160)),
		{Glues: countedSet("g", 200, 1).Glues, Tiles: []impl.Tile{tile("a", 200, 199, 1, 0), tile("b", 200, 200, 200, 200), tile("c", 1, 1, 200, 1)}},
	}
	for n := 1; n <= 60; n++ {
		sets = append(sets, drawSet(uint64(n)))
	}
	return sets
}

// drawSet returns a small set that depends on a number: glues and tiles with names from a few, in any order.
// Mostly the glues and tiles of one name are the same in all of these sets.
func drawSet(number uint64) impl.TileSet {
	seed := number * 7919
	draw := func(n int64) int64 { return nextNumber(&seed, 6) % n }
	var set impl.TileSet
	glueCount, few := draw(7), draw(2) == 0
	for _, k := range drawOrder(draw, 7) {
		if strength := int64(1 + k%4); int64(len(set.Glues)) < glueCount || !few {
			if draw(40) == 0 {
				strength = 1 + draw(4)
			}
			set.Glues = append(set.Glues, glue("abcdefg"[k:k+1], strength))
		}
	}
	tileCount := 1 + draw(8)
	for _, k := range drawOrder(draw, 9)[:tileCount] {
		var sides []int64
		for dir := range 4 {
			name := "abcdefg-"[(k*k+3*dir+k*dir)%8:][:1]
			if draw(100) == 0 {
				name = "abcdefg-"[draw(8):][:1]
			}
			sides = append(sides, int64(slices.IndexFunc(set.Glues, func(g impl.Glue) bool { return g.Name == name })+1))
		}
		set.Tiles = append(set.Tiles, tile("abcdxyzuv"[k:k+1], sides...))
	}
	return set
}

// drawOrder returns the numbers from 0 to n-1 in an order that is drawn.
func drawOrder(draw func(n int64) int64, n int) []int {
	order := make([]int, n)
	for i := range order {
		at := draw(int64(i + 1))
		order[i], order[at] = order[at], i
	}
	return order
}

// wrongNames are texts that are no names.
func wrongNames() []string {
	return []string{"", "-", "0a", "_a", "a b", " a", "a ", "a\n", "a\x00", "a-b", "a\xff", "\u00e9", "a\u00e9", "abcdefghijklm", strings.Repeat("a", 256+5)}
}

// invalidSets are plain sets that each break one of the rules, at each place, and sets beyond the limits.
func invalidSets() []faultySet {
	var list []faultySet
	add := func(why string, change func(set *impl.TileSet)) {
		set := plainSet()
		change(&set)
		list = append(list, faultySet{why, set})
	}
	addWrongGlues(add)
	addWrongTiles(add)
	addWrongSides(add)
	add("nothing", func(set *impl.TileSet) { *set = impl.TileSet{} })
	add("no tile", func(set *impl.TileSet) { set.Tiles = nil })
	add("no tile", func(set *impl.TileSet) { set.Tiles = set.Tiles[:0] })
	add("no glue, but tiles with glues", func(set *impl.TileSet) { set.Glues = nil })
	add("one glue less", func(set *impl.TileSet) { set.Glues = set.Glues[:2] })
	for _, n := range []int{201, 202, 255, 256, 257, 400, 256 + 200, 1<<16 + 3} {
		add(fmt.Sprint(n, " glues"), func(set *impl.TileSet) { *set = countedSet("g", n, 1); set.Tiles = plainSet().Tiles })
		add(fmt.Sprint(n, " bare glues"), func(set *impl.TileSet) { *set = bareSet(countedSet("g", n, 1)) })
	}
	for _, n := range []int{161, 162, 200, 256, 257, 320, 256 + 160, 1<<16 + 3} {
		add(fmt.Sprint(n, " tiles"), func(set *impl.TileSet) { set.Tiles = countedSet("t", 3, n).Tiles })
		add(fmt.Sprint(n, " bare tiles"), func(set *impl.TileSet) { *set = countedSet("t", 0, n) })
	}
	return list
}

func addWrongGlues(add func(why string, change func(set *impl.TileSet))) {
	for i := range 3 {
		for _, name := range wrongNames() {
			add(fmt.Sprintf("glue %d has the name %q", i, name), func(set *impl.TileSet) { set.Glues[i].Name = name })
		}
		for _, strength := range edgeNumbers() {
			if strength < 1 || strength > 4 {
				add(fmt.Sprintf("glue %d has the strength %d", i, strength), func(set *impl.TileSet) { set.Glues[i].Strength = strength })
			}
		}
		for j := range i {
			add(fmt.Sprintf("glues %d and %d have equal names", j, i), func(set *impl.TileSet) { set.Glues[i].Name = set.Glues[j].Name })
			add(fmt.Sprintf("glues %d and %d are equal", j, i), func(set *impl.TileSet) { set.Glues[i] = set.Glues[j] })
		}
	}
	add("an unused glue with the name of another one", func(set *impl.TileSet) { set.Glues = append(set.Glues, glue("b", 2)) })
	add("an unused glue without a name", func(set *impl.TileSet) { set.Glues = append(set.Glues, glue("", 2)) })
	add("200 glues, two of which are equal", func(set *impl.TileSet) {
		*set = countedSet("g", 200, 2)
		set.Glues[199] = set.Glues[0]
	})
}

func addWrongTiles(add func(why string, change func(set *impl.TileSet))) {
	for i := range 3 {
		for _, name := range wrongNames() {
			add(fmt.Sprintf("tile %d has the name %q", i, name), func(set *impl.TileSet) { set.Tiles[i].Name = name })
		}
		for j := range i {
			add(fmt.Sprintf("tiles %d and %d have equal names", j, i), func(set *impl.TileSet) { set.Tiles[i].Name = set.Tiles[j].Name })
			add(fmt.Sprintf("tiles %d and %d are equal", j, i), func(set *impl.TileSet) { set.Tiles[i] = tile(set.Tiles[j].Name, set.Tiles[j].Sides...) })
		}
		for _, count := range []int{0, 1, 2, 3, 5, 6, 8, 256 + 4, 1<<16 + 4} {
			add(fmt.Sprintf("tile %d has %d sides", i, count), func(set *impl.TileSet) { set.Tiles[i].Sides = make([]int64, count) })
		}
		add(fmt.Sprintf("tile %d has one side less", i), func(set *impl.TileSet) { set.Tiles[i].Sides = set.Tiles[i].Sides[:3] })
		add(fmt.Sprintf("tile %d has one side more", i), func(set *impl.TileSet) { set.Tiles[i].Sides = append(set.Tiles[i].Sides, 1) })
		add(fmt.Sprintf("tile %d has nil as sides", i), func(set *impl.TileSet) { set.Tiles[i].Sides = nil })
	}
	add("160 tiles, two of which have equal names", func(set *impl.TileSet) {
		*set = countedSet("g", 9, 160)
		set.Tiles[159].Name = set.Tiles[0].Name
	})
}

func addWrongSides(add func(why string, change func(set *impl.TileSet))) {
	for i := range 3 {
		for dir := range 4 {
			for _, k := range edgeNumbers() {
				if k < 0 || k > 3 {
					add(fmt.Sprintf("tile %d has the glue %d to the %s", i, k, impl.DirName(int64(dir))), func(set *impl.TileSet) { set.Tiles[i].Sides[dir] = k })
				}
			}
		}
	}
	add("a side with the glue 1 of none", func(set *impl.TileSet) { *set = countedSet("g", 0, 1); set.Tiles[0].Sides[3] = 1 })
	add("a side with the glue 201 of 200", func(set *impl.TileSet) { *set = countedSet("g", 200, 160); set.Tiles[159].Sides[3] = 201 })
	add("a side with the least number", func(set *impl.TileSet) { *set = countedSet("g", 200, 160); set.Tiles[159].Sides[3] = math.MinInt64 })
}
