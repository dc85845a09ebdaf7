package tests

import (
	"cmp"
	"fmt"
	"slices"

	"loop.example/g01081/impl"
)

// faultyAssembly is an assembly without the form of one, with the reason.
type faultyAssembly struct {
	why      string
	assembly impl.Assembly
}

func placed(x, y, tile int64) impl.Placed {
	return impl.Placed{At: impl.Point{X: x, Y: y}, Tile: tile}
}

func assembly(tiles ...impl.Placed) impl.Assembly {
	return impl.Assembly{Tiles: slices.Clone(tiles)}
}

// tilesIn are the tiles of an assembly by their points.
func tilesIn(a impl.Assembly) map[impl.Point]int64 {
	tiles := map[impl.Point]int64{}
	for _, x := range a.Tiles {
		tiles[x.At] = x.Tile
	}
	return tiles
}

// assemblyOf is the assembly with these tiles: the rows from south to north, each from west to east.
func assemblyOf(tiles map[impl.Point]int64) impl.Assembly {
	var a impl.Assembly
	for p, tile := range tiles {
		a.Tiles = append(a.Tiles, impl.Placed{At: p, Tile: tile})
	}
	slices.SortFunc(a.Tiles, func(a, b impl.Placed) int {
		return cmp.Or(cmp.Compare(a.At.Y, b.At.Y), cmp.Compare(a.At.X, b.At.X))
	})
	return a
}

// equalAssemblies says what SameAssembly must return.
func equalAssemblies(a, b impl.Assembly) bool {
	if len(a.Tiles) != len(b.Tiles) {
		return false
	}
	for i, x := range a.Tiles {
		y := b.Tiles[i]
		if x.At.X != y.At.X || x.At.Y != y.At.Y || x.Tile != y.Tile {
			return false
		}
	}
	return true
}

func copyAssembly(a impl.Assembly) impl.Assembly {
	return impl.Assembly{Tiles: slices.Clone(a.Tiles)}
}

// rowsAssembly has so many tiles in rows of a width: from a point to the east, and row by row to the north.
func rowsAssembly(low impl.Point, width, count int64) impl.Assembly {
	var a impl.Assembly
	for i := range count {
		a.Tiles = append(a.Tiles, placed(low.X+i%width, low.Y+i/width, (i*7+3)%160))
	}
	return a
}

// chessAssembly has so many tiles that touch only at their corners, 25 in each row.
func chessAssembly(low impl.Point, count int64) impl.Assembly {
	var a impl.Assembly
	for i := range count {
		row := i / 25
		a.Tiles = append(a.Tiles, placed(low.X+2*(i%25)+row%2, low.Y+row, i%160))
	}
	return a
}

// snakeAssembly has so many tiles on one way that goes to and fro, with a free row between its rows.
func snakeAssembly(low impl.Point, width, count int64) impl.Assembly {
	tiles := map[impl.Point]int64{}
	x, y, step := low.X, low.Y, int64(1)
	for i := range count {
		tiles[impl.Point{X: x, Y: y}] = i % 160
		switch end := x+step < low.X || x+step >= low.X+width; {
		case (y-low.Y)%2 != 0:
			y++
			step = -step
		case end:
			y++
		default:
			x += step
		}
	}
	return assemblyOf(tiles)
}

// drawAssembly returns an assembly that depends on a number, with at most 100 tiles within a window.
func drawAssembly(number uint64) impl.Assembly {
	seed := number*104729 + 11
	draw := func(n int64) int64 { return nextNumber(&seed, 6) % n }
	width, height, density := 1+draw(10), 1+draw(10), 1+draw(10)
	low := impl.Point{X: draw(8) - 4, Y: draw(8) - 4}
	if draw(5) == 0 {
		low = impl.Point{X: draw(2)*(121-width) - 60, Y: draw(2)*(121-height) - 60}
	}
	kinds := []int64{1, 2, 3, 160}[draw(4)]
	var a impl.Assembly
	for y := range height {
		for x := range width {
			if draw(10) < density {
				a.Tiles = append(a.Tiles, placed(low.X+x, low.Y+y, draw(kinds)))
			}
		}
	}
	return a
}

// gridAssemblies are all assemblies with the tiles 0 to kinds - 1 within a window around the origin.
func gridAssemblies(width, height, kinds int64) []impl.Assembly {
	list := []impl.Assembly{{}}
	for y := range height {
		for x := range width {
			for _, a := range list {
				for tile := range kinds {
					list = append(list, assembly(append(slices.Clone(a.Tiles), placed(x-1, y-1, tile))...))
				}
			}
		}
	}
	return list
}

// smallAssemblies have the form, few tiles, and points at the limits and in orders that are easily confused.
func smallAssemblies() []impl.Assembly {
	return []impl.Assembly{
		{}, {Tiles: []impl.Placed{}}, assembly(placed(0, 0, 0)), assembly(placed(0, 0, 159)), assembly(placed(3, -2, 7)),
		assembly(placed(-60, -60, 0)), assembly(placed(60, -60, 159)), assembly(placed(-60, 60, 1)), assembly(placed(60, 60, 158)),
		assembly(placed(-60, -60, 0), placed(60, -60, 1), placed(-60, 60, 159), placed(60, 60, 3)),
		assembly(placed(0, 0, 1), placed(1, 0, 2), placed(3, 0, 2)), assembly(placed(2, 0, 4), placed(-1, 3, 5)),
		assembly(placed(0, 0, 0), placed(0, 1, 0)), assembly(placed(0, 0, 0), placed(1, 1, 0)), assembly(placed(1, 0, 0), placed(0, 1, 0)),
		assembly(placed(60, 0, 1), placed(-60, 1, 1)), assembly(placed(-60, 0, 1), placed(60, 0, 1)), assembly(placed(60, -1, 1), placed(-60, 0, 1), placed(60, 0, 1)),
		assembly(placed(0, -60, 2), placed(0, 60, 2)), assembly(placed(5, -3, 1), placed(4, -2, 1), placed(3, -1, 1), placed(2, 0, 1)),
		plainAssembly(),
	}
}

// plainAssembly has rows of two and more tiles, equal tiles, tiles at the limits, and three parts.
func plainAssembly() impl.Assembly {
	return assembly(placed(-2, -1, 0), placed(0, -1, 159), placed(-3, 0, 5), placed(-2, 0, 5), placed(1, 0, 5), placed(0, 1, 9), placed(1, 1, 8))
}

// largeAssemblies have the form and 121, 499 or 500 tiles.
func largeAssemblies() []impl.Assembly {
	return []impl.Assembly{
		rowsAssembly(impl.Point{X: -60}, 121, 121), rowsAssembly(impl.Point{Y: -60}, 1, 121),
		rowsAssembly(impl.Point{X: -12, Y: -10}, 25, 499), rowsAssembly(impl.Point{X: -12, Y: -10}, 25, 500), rowsAssembly(impl.Point{X: 36, Y: 41}, 25, 500),
		rowsAssembly(impl.Point{X: -60, Y: -60}, 121, 500), rowsAssembly(impl.Point{X: -60, Y: -60}, 5, 500),
		chessAssembly(impl.Point{X: -20, Y: -7}, 500), snakeAssembly(impl.Point{X: -20, Y: -12}, 40, 499), snakeAssembly(impl.Point{X: -3, Y: -60}, 9, 500),
	}
}

// formedAssemblies have the form of an assembly.
func formedAssemblies() []impl.Assembly {
	list := append(smallAssemblies(), largeAssemblies()...)
	for n := range uint64(60) {
		list = append(list, drawAssembly(n))
	}
	return list
}

// unformedAssemblies each break one of the rules, at each place.
func unformedAssemblies() []faultyAssembly {
	var list []faultyAssembly
	add := func(why string, tiles []impl.Placed) {
		list = append(list, faultyAssembly{why, impl.Assembly{Tiles: tiles}})
	}
	addWrongPlaced(add)
	addWrongOrders(add)
	for _, n := range []int64{501, 502, 511, 512, 600, 756, 1000, 14641} {
		add(fmt.Sprint(n, " tiles"), rowsAssembly(impl.Point{X: -60, Y: -60}, 121, n).Tiles)
	}
	add("501 tiles", chessAssembly(impl.Point{X: 10, Y: 40}, 501).Tiles)
	add("501 tiles", append(rowsAssembly(impl.Point{X: -12, Y: -10}, 25, 500).Tiles, placed(60, 60, 159)))
	add("100000 tiles", make([]impl.Placed, 100000))
	return list
}

// addWrongPlaced adds assemblies with points beyond the limits and numbers that are no tiles.
func addWrongPlaced(add func(why string, tiles []impl.Placed)) {
	full := rowsAssembly(impl.Point{X: -60, Y: -60}, 121, 500).Tiles
	for _, n := range append(edgeNumbers(), 62, -62, 120, -120, 121, -121) {
		if n >= -60 && n <= 60 {
			continue
		}
		add(fmt.Sprint("one tile with the X ", n), []impl.Placed{placed(n, 0, 1)})
		add(fmt.Sprint("one tile with the Y ", n), []impl.Placed{placed(0, n, 1)})
		before, after := plainAssembly().Tiles, plainAssembly().Tiles
		last := len(after) - 1
		for i := range plainAssembly().Tiles {
			tiles := plainAssembly().Tiles
			tiles[i].At.X = n
			add(fmt.Sprintf("tile %d has the X %d", i, n), tiles)
		}
		if n < 0 { // in order with the other points
			before[0].At.Y = n
			add(fmt.Sprint("the first tile has the Y ", n), before)
		} else {
			after[last].At.Y = n
			add(fmt.Sprint("the last tile has the Y ", n), after)
		}
	}
	for _, n := range append(edgeNumbers(), 159, 160, 161, 320, 256+159) {
		if n >= 0 && n <= 159 {
			continue
		}
		for i := range plainAssembly().Tiles {
			tiles := plainAssembly().Tiles
			tiles[i].Tile = n
			add(fmt.Sprintf("the tile at place %d is %d", i, n), tiles)
		}
		add(fmt.Sprint("one tile, which is ", n), []impl.Placed{placed(0, 0, n)})
		tiles := slices.Clone(full)
		tiles[499].Tile = n
		add(fmt.Sprint("500 tiles, the last of which is ", n), tiles)
	}
}

// addWrongOrders adds assemblies with equal points and with points that are not in their order.
func addWrongOrders(add func(why string, tiles []impl.Placed)) {
	plain := plainAssembly().Tiles
	for i, x := range plain {
		add(fmt.Sprintf("tile %d is there twice", i), slices.Insert(slices.Clone(plain), i, x))
		x.Tile++
		x.Tile %= 160
		add(fmt.Sprintf("tile %d has another tile at its point", i), slices.Insert(slices.Clone(plain), i, x))
		add(fmt.Sprintf("tile %d has another tile at its point", i), slices.Insert(slices.Clone(plain), i+1, x))
		for j := range i {
			tiles := slices.Clone(plain)
			tiles[i], tiles[j] = tiles[j], tiles[i]
			add(fmt.Sprintf("tiles %d and %d are exchanged", j, i), tiles)
			add(fmt.Sprintf("tile %d is there again after tile %d", j, i), slices.Insert(slices.Clone(plain), i+1, plain[j]))
		}
	}
	reversed := slices.Clone(plain)
	slices.Reverse(reversed)
	add("from the last tile to the first one", reversed)
	columns := slices.Clone(plain)
	slices.SortFunc(columns, func(a, b impl.Placed) int {
		return cmp.Or(cmp.Compare(a.At.X, b.At.X), cmp.Compare(a.At.Y, b.At.Y))
	})
	add("in the order of columns", columns)
	add("in the order of columns", []impl.Placed{placed(0, 1, 0), placed(1, 0, 0)})
	add("from north to south", []impl.Placed{placed(0, 0, 0), placed(0, -1, 0)})
	add("from east to west", []impl.Placed{placed(0, 0, 0), placed(-1, 0, 0)})
	add("two equal tiles", []impl.Placed{placed(0, 0, 0), placed(0, 0, 0)})
	for _, i := range []int{0, 1, 250, 498} {
		full := rowsAssembly(impl.Point{X: -60, Y: -60}, 121, 500).Tiles
		full[i], full[i+1] = full[i+1], full[i]
		add(fmt.Sprintf("tiles %d and %d of 500 are exchanged", i, i+1), full)
		equal := rowsAssembly(impl.Point{X: -60, Y: -60}, 121, 500).Tiles
		equal[i+1].At = equal[i].At
		add(fmt.Sprintf("tiles %d and %d of 500 are at one point", i, i+1), equal)
	}
}

// pointsAround are the points of an assembly, those next to them, and some others, also beyond the limits.
func pointsAround(a impl.Assembly) []impl.Point {
	points := []impl.Point{
		{}, {X: 1}, {Y: 1}, {X: 60, Y: 60}, {X: -60, Y: -60}, {X: 60, Y: -60}, {X: -60, Y: 60}, {X: 61}, {X: -61}, {Y: 61}, {Y: -61},
		{X: 61, Y: 61}, {X: 1 << 32}, {Y: -1 << 32}, {X: -1 << 63, Y: 1<<63 - 1},
	}
	for _, x := range a.Tiles {
		points = append(points, x.At, impl.Point{X: x.At.Y, Y: x.At.X}, impl.Point{X: x.At.X + 1<<32, Y: x.At.Y})
		for dir := range int64(4) {
			step := stepOf(dir)
			points = append(points, impl.Point{X: x.At.X + step.X, Y: x.At.Y + step.Y})
		}
	}
	return points
}
