package tests

import (
	"fmt"
	"slices"
	"strings"

	"loop.example/g01081/impl"
)

// drawn is a tiling that is drawn in rows from north to south: an "o" for each tile, the strengths of the bonds between them, and blanks for nothing.
// The last row has the Y 0, and the first tile of each row the X 0.
func drawn(rows ...string) tiling { return drawnAt(impl.Point{}, rows...) }

// drawnAt has the first tile of the last row at another point.
func drawnAt(low impl.Point, rows ...string) tiling {
	at := func(x, y int) int64 {
		if y < 0 || y >= len(rows) || x < 0 || x >= len(rows[len(rows)-1-y]) || rows[len(rows)-1-y][x] == ' ' {
			return 0
		}
		return int64(rows[len(rows)-1-y][x] - '0')
	}
	// The glue k has the strength k.
	set := impl.TileSet{Glues: []impl.Glue{glue("s1", 1), glue("s2", 2), glue("s3", 3), glue("s4", 4)}, Tiles: []impl.Tile{tile("t0", 0, 0, 0, 0)}}
	kinds, tiles := map[[4]int64]int64{{}: 0}, map[impl.Point]int64{}
	for y := 0; y < len(rows); y += 2 {
		for x := 0; x < len(rows[len(rows)-1-y]); x += 2 {
			if at(x, y) != 'o'-'0' {
				continue
			}
			sides := [4]int64{at(x, y+1), at(x+1, y), at(x, y-1), at(x-1, y)}
			if _, ok := kinds[sides]; !ok {
				kinds[sides] = int64(len(set.Tiles))
				set.Tiles = append(set.Tiles, tile(fmt.Sprint("t", len(set.Tiles)), sides[:]...))
			}
			tiles[impl.Point{X: low.X + int64(x/2), Y: low.Y + int64(y/2)}] = kinds[sides]
		}
	}
	return tiling{set, assemblyOf(tiles)}
}

// drawnBlock has width * height tiles around the origin, and bonds whose strengths follow a rule: of the tile x, y with the one to the east or to the north.
func drawnBlock(width, height int64, strength func(x, y, dir int64) int64) tiling {
	return drawnAt(impl.Point{X: -width / 2, Y: -height / 2}, blockRows(width, height, strength)...)
}

func blockRows(width, height int64, strength func(x, y, dir int64) int64) []string {
	var rows []string
	for y := height - 1; y >= 0; y-- {
		row, below := "", ""
		for x := range width {
			if x > 0 {
				row += markOf(strength(x-1, y, impl.DiEast))
				below += " "
			}
			row += "o"
			if y > 0 {
				below += markOf(strength(x, y-1, impl.DiNorth))
			}
		}
		rows = append(rows, row, below)
	}
	return rows[:2*height-1]
}

func markOf(strength int64) string { return " 1234"[strength : strength+1] }

// evenBlock has bonds of one strength.
func evenBlock(width, height, strength int64) tiling {
	return drawnBlock(width, height, func(int64, int64, int64) int64 { return strength })
}

// lineOf is a row of tiles whose bonds have these strengths, from west to east.
func lineOf(strengths ...int64) tiling {
	return drawnBlock(int64(len(strengths)+1), 1, func(x, _, _ int64) int64 { return strengths[x] })
}

// ladder has 32 rows of two tiles, with bonds whose strengths repeat.
func ladder() tiling {
	return drawnBlock(2, 32, func(x, y, dir int64) int64 { return 1 + (x+y*(dir+1))%4 })
}

// drawnRows are rows of a drawing that depends on a number: at most width * height tiles, most of them with bonds of few strengths.
func drawnRows(number uint64, width, height int64) []string {
	seed := number*32452843 + 9
	draw := func(n int64) int64 { return nextNumber(&seed, 6) % n }
	marks := []string{"1", "2", "11 ", "12", "111112", "1114", "1 234", "4432", "1234", "1111    2"}[draw(10)]
	rows := blockRows(width, height, func(_, _, _ int64) int64 {
		return int64(strings.Index(" 1234", marks[draw(int64(len(marks))):][:1]))
	})
	if draw(3) > 0 {
		return rows
	}
	for range 1 + draw(2) {
		y, x := 2*draw(height), 2*draw(width)
		row := []byte(rows[y])
		row[x] = ' '
		rows[y] = string(row)
	}
	return rows
}

// knownDrawings are drawings with many equal cuts, with turns, with single bonds, and with tiles that no bond connects.
func knownDrawings() []tiling {
	return []tiling{
		{pairSet(), impl.Assembly{}}, {pairSet(), assembly(placed(0, 0, 0))}, {pairSet(), assembly(placed(0, 0, 0), placed(1, 0, 1))}, {pairSet(), assembly(placed(0, 0, 1), placed(1, 0, 0))},
		drawn("o"), drawn("o1o"), drawn("o4o"), drawn("o o"), drawn("o", "3", "o"), drawn("o   o"),
		drawn("o1o", "1 1", "o2o"), drawn("o1o", "1 1", "o1o"), drawn("o2o", "1 1", "o2o"), drawn("o1o", "2 2", "o1o"), drawn("o o", "4 4", "o o"), drawn("o4o", "", "o4o"),
		drawn("o1o1o", "1 1 1", "o1o1o", "1 1 1", "o1o1o"), drawn("o1o1o", "1   1", "o   o", "1   1", "o1o1o"), drawn("  o", "  4", "o4o4o", "  4", "  o"),
		drawn("o4o", "1", "o4o"), drawn("o4o4o", "    1", "o4o4o"), drawn("o3o1o", "3 3 1", "o3o1o"), drawn("o1o3o", "1 3 3", "o1o3o"), drawn("o1o o1o", "1 1 1 1", "o1o o1o"),
		drawn("o1o1o1o", "1 1 1 1", "o1o1o1o"), lineOf(1, 1, 1, 1), lineOf(2, 1, 2, 1, 2), lineOf(4, 3, 2, 1, 2, 3, 4), lineOf(1, 2, 3, 0, 3, 2, 1),
		drawnAt(impl.Point{X: -60, Y: -60}, "o1o", "2 3", "o4o"), drawnAt(impl.Point{X: 59, Y: 59}, "o1o", "2 3", "o4o"), drawnAt(impl.Point{X: 58, Y: -60}, "o1o1o", "2 3 4", "o4o3o"),
	}
}

// drawnWith has bonds that depend on a number, each with one of these strengths.
func drawnWith(number uint64, width, height int64, strengths ...int64) tiling {
	return drawnBlock(width, height, func(x, y, dir int64) int64 {
		seed := number*7919 + uint64(x*31+y*17+dir)
		nextNumber(&seed, 6)
		return strengths[nextNumber(&seed, 6)%int64(len(strengths))]
	})
}

// drawnSmall have at most 9 tiles.
func drawnSmall() []tiling {
	list := knownDrawings()
	sizes := [][2]int64{{2, 2}, {3, 2}, {2, 3}, {3, 3}, {4, 2}, {3, 3}, {2, 4}, {3, 3}, {5, 1}, {1, 6}, {3, 3}}
	for n := range uint64(220) {
		size := sizes[n%uint64(len(sizes))]
		list = append(list, drawn(drawnRows(n, size[0], size[1])...))
	}
	return list
}

// drawnGroups have bonds of 4 within squares of two by two tiles, and bonds of 1 between them.
func drawnGroups(width, height int64) tiling {
	return drawnBlock(width, height, func(x, y, dir int64) int64 {
		if dir == impl.DiEast && x%2 == 0 || dir == impl.DiNorth && y%2 == 0 {
			return 4
		}
		return 1
	})
}

// drawnMedium have between 10 and 64 tiles.
func drawnMedium() []tiling {
	list := []tiling{
		evenBlock(8, 8, 1), evenBlock(8, 8, 4), evenBlock(64, 1, 2), evenBlock(1, 64, 3), ladder(), drawnGroups(8, 8), drawnGroups(7, 6),
		{strongSet(), withinSet(strongSet(), cornerAssembly())}, evenBlock(4, 16, 0), drawn(drawnRows(4, 8, 8)...),
	}
	sizes := [][2]int64{{4, 3}, {4, 4}, {5, 4}, {3, 6}, {6, 5}, {8, 3}, {7, 7}, {2, 9}}
	for n := range uint64(32) {
		size := sizes[n%uint64(len(sizes))]
		list = append(list, drawn(drawnRows(n+1000, size[0], size[1])...), drawnWith(n, size[0], size[1], 1, 1, 1, 0))
	}
	return list
}

// drawnLarge have more than 64 tiles.
func drawnLarge() []tiling {
	comb := drawnBlock(25, 20, func(_, y, dir int64) int64 {
		if dir == impl.DiNorth {
			return 3
		}
		return []int64{0, 0, 1}[max(y, 17)-17]
	})
	list := []tiling{evenBlock(65, 1, 4), evenBlock(5, 13, 1), evenBlock(20, 25, 2), evenBlock(13, 5, 4), drawnGroups(16, 16), drawnGroups(26, 10), drawnGroups(20, 25), comb}
	for n := range uint64(24) {
		list = append(list, drawnWith(n, 11+int64(n), 9, 0, 1, 4, 4))
	}
	return append(list, largeTilings()...)
}

// somePairs are pairs of different places: all of them, if there are few tiles.
func somePairs(count int) [][2]int64 {
	var pairs [][2]int64
	for x := range int64(count) {
		for y := range int64(count) {
			if x != y && (count < 10 || (x*31+y*17)%int64(count*count/12) == 0) {
				pairs = append(pairs, [2]int64{x, y})
			}
		}
	}
	if last := int64(count - 1); count >= 10 {
		pairs = append(pairs, [2]int64{0, last}, [2]int64{last, 0}, [2]int64{0, 1}, [2]int64{last / 2, last})
	}
	return slices.Clip(pairs)
}

// wrongPairs are pairs that are no different places of so many tiles.
func wrongPairs(count int) [][2]int64 {
	n := int64(count)
	var pairs [][2]int64
	for _, x := range append(edgeNumbers(), n-1, n, n+1, -n, 499, 500, 501) {
		for _, y := range []int64{x, 0, n - 1, n, -1, 1 << 32, -1 << 63, 1<<63 - 1} {
			if x < 0 || x >= n || y < 0 || y >= n || x == y {
				pairs = append(pairs, [2]int64{x, y}, [2]int64{y, x})
			}
		}
	}
	return pairs
}
