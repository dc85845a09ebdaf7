package tests

import (
	"cmp"
	"fmt"
	"slices"
	"strings"

	"loop.example/g01081/impl"
)

// faultyShape is a list of points that is no shape, with the reason.
type faultyShape struct {
	why    string
	points []impl.Point
}

// knownShape is a shape, by its text, of which everything is told that chapter 4 asks for.
type knownShape struct {
	text       string
	symmetries []int64
	connected  bool
	holes      [][]impl.Point
	perimeter  int64
}

// knownShapes have 1, 2, 4 or 8 symmetries, one part or several, and no, one or several holes.
func knownShapes() []knownShape {
	all, one := []int64{0, 1, 2, 3, 4, 5, 6, 7}, [][]impl.Point{points(1, 1)}
	return []knownShape{
		{"#", all, true, nil, 4},
		{"##", []int64{0, 2, 4, 6}, true, nil, 6},
		{"#/#", []int64{0, 2, 4, 6}, true, nil, 6},
		{"##/##", all, true, nil, 8},
		{"#.#", []int64{0, 2, 4, 6}, false, nil, 8},
		{"#./##", []int64{0, 5}, true, nil, 8},
		{"##/.#", []int64{0, 5}, true, nil, 8},
		{".#/##", []int64{0, 7}, true, nil, 8},
		{"##/#.", []int64{0, 7}, true, nil, 8},
		{"###/.#.", []int64{0, 4}, true, nil, 10},
		{"#./##/#.", []int64{0, 6}, true, nil, 10},
		{"##./.##", []int64{0, 2}, true, nil, 10},
		{".#/##/#.", []int64{0, 2}, true, nil, 10},
		{"#./.#", []int64{0, 2, 5, 7}, false, nil, 8},
		{"##./###/.##", []int64{0, 2, 5, 7}, true, nil, 12},
		{".#../.###/###./..#.", []int64{0, 1, 2, 3}, true, nil, 16},
		{".#./###/.#.", all, true, nil, 12},
		{".##/##./.#.", []int64{0}, true, nil, 12},
		{"#./#./##", []int64{0}, true, nil, 10},
		{"###./#.##/..#.", []int64{0}, true, nil, 16},
		{"##.#/#.../####", []int64{0}, false, nil, 20},
		{"###/#../###", []int64{0, 6}, true, nil, 16},
		{"##.##/#...#/#####", []int64{0, 4}, true, nil, 24},
		{"###/#.#/###", all, true, one, 16},
		{".##/#.#/###", []int64{0, 7}, true, one, 16},
		{".#./#.#/.#.", all, false, one, 16},
		{"####/#.##/####", []int64{0, 6}, true, one, 18},
		{"#####/#.#.#/#####", []int64{0, 2, 4, 6}, true, [][]impl.Point{points(1, 1), points(3, 1)}, 24},
		{"####/##.#/#.##/####", []int64{0, 2, 5, 7}, true, [][]impl.Point{points(1, 1), points(2, 2)}, 24},
		{"####/#.##/##.#/####", []int64{0, 2, 5, 7}, true, [][]impl.Point{points(2, 1), points(1, 2)}, 24},
		{"#####/#.#.#/#...#/#####", []int64{0, 4}, true, [][]impl.Point{points(1, 1, 2, 1, 3, 1, 1, 2, 3, 2)}, 30},
		{"#####/#...#/#.#.#/#####", []int64{0, 4}, true, [][]impl.Point{points(1, 1, 3, 1, 1, 2, 2, 2, 3, 2)}, 30},
		{"#######/#.....#/#.###.#/#.#.#.#/#.###.#/#.....#/#######", all, false, [][]impl.Point{
			points(1, 1, 2, 1, 3, 1, 4, 1, 5, 1, 1, 2, 5, 2, 1, 3, 5, 3, 1, 4, 5, 4, 1, 5, 2, 5, 3, 5, 4, 5, 5, 5), points(3, 3),
		}, 64},
		{"######/#.####/#.#..#/####.#/##.###/######", []int64{0}, true, [][]impl.Point{points(2, 1), points(4, 2, 3, 3, 4, 3), points(1, 3, 1, 4)}, 42},
	}
}

// points are points by their coordinates: X and Y of the first one, X and Y of the second one, and so on.
func points(coordinates ...int64) []impl.Point {
	var list []impl.Point
	for xy := range slices.Chunk(coordinates, 2) {
		list = append(list, impl.Point{X: xy[0], Y: xy[1]})
	}
	return list
}

// pointsIn are the points of the tiles of an assembly.
func pointsIn(a impl.Assembly) []impl.Point {
	var list []impl.Point
	for _, x := range a.Tiles {
		list = append(list, x.At)
	}
	return list
}

// inOrderOfPoints are the points from south to north, in each row from west to east.
func inOrderOfPoints(list []impl.Point) []impl.Point {
	return slices.SortedFunc(slices.Values(list), func(a, b impl.Point) int {
		return cmp.Or(cmp.Compare(a.Y, b.Y), cmp.Compare(a.X, b.X))
	})
}

// movedBy are the points moved.
func movedBy(list []impl.Point, x, y int64) []impl.Point {
	var result []impl.Point
	for _, p := range list {
		result = append(result, impl.Point{X: p.X + x, Y: p.Y + y})
	}
	return result
}

// limitsOf are the least and the greatest coordinates of points.
func limitsOf(list []impl.Point) (low, high impl.Point) {
	var xs, ys []int64
	for _, p := range list {
		xs, ys = append(xs, p.X), append(ys, p.Y)
	}
	return impl.Point{X: slices.Min(xs), Y: slices.Min(ys)}, impl.Point{X: slices.Max(xs), Y: slices.Max(ys)}
}

// isShape says what ValidShape must return.
func isShape(list []impl.Point) bool {
	known := map[impl.Point]bool{}
	for _, p := range list {
		if p.X < -60 || p.X > 60 || p.Y < -60 || p.Y > 60 {
			return false
		}
		known[p] = true
	}
	return len(list) >= 1 && len(list) <= 500 && len(known) == len(list) && slices.Equal(list, inOrderOfPoints(list))
}

// rowsOf are the rows of a shape's text, written by points: a grid of free ones, in which the points are then marked.
func rowsOf(shape []impl.Point) []string {
	low, high := limitsOf(shape)
	grid := make([][]byte, high.Y-low.Y+1)
	for i := range grid {
		grid[i] = []byte(strings.Repeat(".", int(high.X-low.X+1)))
	}
	for _, p := range shape {
		grid[high.Y-p.Y][p.X-low.X] = '#'
	}
	var rows []string
	for _, row := range grid {
		rows = append(rows, string(row))
	}
	return rows
}

// textOf says what ShapeText must return for a valid shape.
func textOf(shape []impl.Point) string { return strings.Join(rowsOf(shape), "/") }

// pointsOfRows are the points that are marked in rows from north to south, with the south-west corner at {0, 0}.
func pointsOfRows(rows []string) []impl.Point {
	var list []impl.Point
	for i, row := range slices.Backward(rows) {
		for x := range len(row) {
			if row[x] == '#' {
				list = append(list, impl.Point{X: int64(x), Y: int64(len(rows) - 1 - i)})
			}
		}
	}
	return list
}

// shapeOf is the shape with a text that is right.
func shapeOf(text string) []impl.Point { return pointsOfRows(strings.Split(text, "/")) }

// turnedRows are rows after a symmetry: mirrored, each row is read backwards; turned clockwise, each column from south to north becomes a row.
func turnedRows(rows []string, symmetry int64) []string {
	result := slices.Clone(rows)
	if symmetry >= 4 {
		for i, row := range rows {
			bytes := []byte(row)
			slices.Reverse(bytes)
			result[i] = string(bytes)
		}
	}
	for range symmetry % 4 {
		columns := make([]string, len(result[0]))
		for _, row := range slices.Backward(result) {
			for x := range columns {
				columns[x] += row[x : x+1]
			}
		}
		result = columns
	}
	return result
}

// drawShape returns a shape that depends on a number, with at most 100 points.
func drawShape(number uint64) []impl.Point {
	if list := pointsIn(drawAssembly(number)); len(list) > 0 {
		return list
	}
	return points(int64(number%121)-60, 7)
}

// gridShapes are all shapes within a window around the origin.
func gridShapes(width, height int64) [][]impl.Point {
	var list [][]impl.Point
	for _, a := range gridAssemblies(width, height, 1)[1:] {
		list = append(list, pointsIn(a))
	}
	return list
}

// frameShape has the border of a rectangle, without its corners if they are to be left out.
func frameShape(low impl.Point, width, height int64, corners bool) []impl.Point {
	var list []impl.Point
	for y := range height {
		for x := range width {
			atX, atY := x == 0 || x == width-1, y == 0 || y == height-1
			if (atX || atY) && (corners || !(atX && atY)) {
				list = append(list, impl.Point{X: low.X + x, Y: low.Y + y})
			}
		}
	}
	return list
}

// wideShapes are shapes with 61 columns or rows, and with more, so that some of their moved points would not be valid.
func wideShapes() [][]impl.Point {
	return [][]impl.Point{
		points(-60, 0, 0, 0), points(0, -60, 0, 0), points(0, 0, 60, 0), points(0, 0, 0, 60), points(-30, 0, 30, 0), points(0, -29, 0, 31),
		points(-60, 0, 1, 0), points(0, -60, 0, 1), points(-1, 0, 60, 0), points(0, -1, 0, 60), points(-30, 0, 31, 0), points(0, -30, 0, 31),
		points(-30, 0, 31, 1), points(31, 0, -30, 1), points(0, -30, 1, 31), points(1, -30, 0, 31),
		points(-60, -60, 0, -60, -60, 0), points(-60, -60, 1, -60, -60, 0), points(-60, -60, 0, -60, -60, 1), points(0, 0, 60, 60), points(60, 0, 0, 60),
		points(-60, 0, 60, 0), points(0, -60, 0, 60), points(-60, -60, 60, 60), points(60, -60, -60, 60),
		points(-60, -60, 60, -60, -60, 60, 60, 60), points(-60, -60, 60, -60, -60, 60), points(-60, 0, 59, 0, 60, 0), points(0, -60, 0, 59, 0, 60),
		points(60, -1, -60, 0, -20, 0), frameShape(impl.Point{X: -60, Y: -60}, 61, 61, true), frameShape(impl.Point{X: -60, Y: -60}, 62, 61, true),
		frameShape(impl.Point{X: -60, Y: -60}, 121, 121, true), frameShape(impl.Point{X: -60, Y: -60}, 121, 121, false), frameShape(impl.Point{X: -60, Y: 10}, 121, 3, true),
	}
}

// knownPoints are the points of the known shapes, at home and elsewhere.
func knownPoints() [][]impl.Point {
	var list [][]impl.Point
	for _, known := range knownShapes() {
		home := shapeOf(known.text)
		_, high := limitsOf(home)
		list = append(list, home, movedBy(home, -60, -60), movedBy(home, 60-high.X, 60-high.Y), movedBy(home, -3, 5))
	}
	return list
}

// validShapes are small, known, large, wide and drawn shapes.
func validShapes() [][]impl.Point {
	list := append(knownPoints(), wideShapes()...)
	for _, a := range append(smallAssemblies(), largeAssemblies()...) {
		if len(a.Tiles) > 0 {
			list = append(list, pointsIn(a))
		}
	}
	list = append(list, frameShape(impl.Point{X: -60, Y: -59}, 20, 9, true), frameShape(impl.Point{X: 36, Y: 36}, 25, 25, false))
	for n := range uint64(60) {
		list = append(list, drawShape(n))
	}
	return list
}

// invalidShapes each break one of the rules, at each place.
func invalidShapes() []faultyShape {
	list := []faultyShape{{"no point", nil}, {"no point", []impl.Point{}}, {"no point", points(1, 1)[:0]}}
	for _, faulty := range unformedAssemblies() {
		if shape := pointsIn(faulty.assembly); !isShape(shape) { // a wrong tile is no fault of its point
			list = append(list, faultyShape{faulty.why, shape})
		}
	}
	frame := frameShape(impl.Point{X: -60, Y: -60}, 121, 121, true)
	for x := range int64(21) {
		frame = append(frame, impl.Point{X: x, Y: 0})
	}
	frame = inOrderOfPoints(frame)
	return append(list, faultyShape{fmt.Sprint(len(frame), " points"), frame})
}
