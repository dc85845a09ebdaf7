package tests

import (
	"fmt"
	"slices"
	"strings"
	"testing"

	"loop.example/g01081/impl"
)

// partsIn are the connected parts of points, in the order of their first points, each in the order of points.
func partsIn(list []impl.Point) [][]impl.Point {
	var a impl.Assembly
	for _, p := range list {
		a.Tiles = append(a.Tiles, placed(p.X, p.Y, 0))
	}
	var parts [][]impl.Point
	for _, part := range connectedParts(a) {
		parts = append(parts, pointsIn(part))
	}
	return parts
}

// holesIn says what HolesOf must return for a valid shape: the parts of the free points within the bounds none of whose points is on the bounds.
func holesIn(shape []impl.Point) [][]impl.Point {
	low, high := limitsOf(shape)
	known := map[impl.Point]bool{}
	for _, p := range shape {
		known[p] = true
	}
	var free []impl.Point
	for y := low.Y; y <= high.Y; y++ {
		for x := low.X; x <= high.X; x++ {
			if p := (impl.Point{X: x, Y: y}); !known[p] {
				free = append(free, p)
			}
		}
	}
	return slices.DeleteFunc(partsIn(free), func(part []impl.Point) bool {
		return slices.ContainsFunc(part, func(p impl.Point) bool { return p.X == low.X || p.X == high.X || p.Y == low.Y || p.Y == high.Y })
	})
}

// perimeterIn says what PerimeterOf must return for a valid shape: how often a point in the shape and one that is not alternate in the columns and rows.
func perimeterIn(shape []impl.Point) int64 {
	count := int64(0)
	for _, rows := range [][]string{rowsOf(shape), turnedRows(rowsOf(shape), 1)} {
		for _, row := range rows {
			padded := "." + row + "."
			for i := range len(row) + 1 {
				if padded[i] != padded[i+1] {
					count++
				}
			}
		}
	}
	return count
}

func checkHoles(t *testing.T, shape []impl.Point, want [][]impl.Point) {
	t.Helper()
	if holes, code := impl.HolesOf(shape); !slices.EqualFunc(holes, want, slices.Equal) || code != impl.OK {
		t.Fatalf("HolesOf %s at %v is %v, %s, not %v", textOf(shape), shape[0], holes, codeText(code), want)
	}
}

func checkBorders(t *testing.T, shape []impl.Point) {
	t.Helper()
	checkHoles(t, shape, holesIn(shape))
	if n, code := impl.PerimeterOf(shape); n != perimeterIn(shape) || code != impl.OK {
		t.Fatalf("PerimeterOf(%v) is %d, %s, not %d", shape, n, codeText(code), perimeterIn(shape))
	}
	if want := len(partsIn(shape)) == 1; impl.IsConnected(shape) != want {
		t.Fatalf("IsConnected(%v) is %t", shape, !want)
	}
}

func TestBorders(t *testing.T) {
	for _, shape := range append(knownPoints(), gridShapes(4, 4)...) {
		checkBorders(t, shape)
	}
	for n := range uint64(1500) {
		checkBorders(t, drawShape(6000+n))
	}
	for _, a := range largeAssemblies() {
		checkBorders(t, pointsIn(a))
	}
}

// TestBordersOfKnownShapes has shapes of which it is told by hand what holes they have, whether they are connected, and what perimeter they have.
func TestBordersOfKnownShapes(t *testing.T) {
	for _, known := range knownShapes() {
		home := shapeOf(known.text)
		_, high := limitsOf(home)
		for _, by := range []impl.Point{{}, {X: -60, Y: -60}, {X: 60 - high.X, Y: 60 - high.Y}, {X: -2, Y: -1}, {X: -60, Y: 9}} {
			shape := movedBy(home, by.X, by.Y)
			var want [][]impl.Point
			for _, hole := range known.holes {
				want = append(want, movedBy(hole, by.X, by.Y))
			}
			checkHoles(t, shape, want)
			if n, code := impl.PerimeterOf(shape); n != known.perimeter || code != impl.OK {
				t.Errorf("PerimeterOf %s at %v is %d, %s, not %d", known.text, by, n, codeText(code), known.perimeter)
			}
			if impl.IsConnected(shape) != known.connected {
				t.Errorf("IsConnected of %s at %v is %t", known.text, by, !known.connected)
			}
		}
	}
}

// TestSpottedShapes has frames with points drawn within them: many holes, also such that touch at a corner, enclose others, or have a way out through the frame.
func TestSpottedShapes(t *testing.T) {
	most := 0
	for n := range uint64(400) {
		seed := n*7919 + 3
		draw := func(n int64) int64 { return nextNumber(&seed, 6) % n }
		width, height, density := 3+draw(16), 3+draw(16), 2+draw(8)
		low := impl.Point{X: draw(100) - 60, Y: draw(100) - 60}
		shape := frameShape(low, width, height, draw(4) > 0)
		for y := range height - 2 {
			for x := range width - 2 {
				if draw(10) < density {
					shape = append(shape, impl.Point{X: low.X + 1 + x, Y: low.Y + 1 + y})
				}
			}
		}
		for range draw(3) {
			i := draw(int64(len(shape)))
			shape = slices.Delete(shape, int(i), int(i)+1)
		}
		shape = inOrderOfPoints(shape)
		checkBorders(t, shape)
		most = max(most, len(holesIn(shape)))
	}
	if most < 20 {
		t.Error("at most so many holes are in one shape:", most)
	}
}

// TestCombShapes has one point in the middle of a shape and ways from it to the border, one of which is open.
func TestCombShapes(t *testing.T) {
	for _, text := range []string{"#####/#...#/#.#.#/#...#/#####", "#####/##.##/#...#/##.##/#####", "#####/#.#.#/##.##/#.#.#/#####"} {
		closed := shapeOf(text)
		checkBorders(t, closed)
		for i := range closed {
			checkBorders(t, slices.Delete(slices.Clone(closed), i, i+1))
		}
	}
}

// TestLargeHoles has frames of the largest size, with and without corners, with a gap at each kind of place, and a smaller frame with a point beside it.
func TestLargeHoles(t *testing.T) {
	low := impl.Point{X: -60, Y: -60}
	inner := pointsIn(rowsAssembly(impl.Point{X: -59, Y: -59}, 119, 119*119))
	for _, corners := range []bool{true, false} {
		frame := frameShape(low, 121, 121, corners)
		checkHoles(t, frame, [][]impl.Point{inner})
		if n, code := impl.PerimeterOf(frame); n != map[bool]int64{true: 4*121 + 4*119, false: 4*119*2 + 8}[corners] || code != impl.OK {
			t.Error("PerimeterOf of the largest frame is", n, codeText(code))
		}
		if impl.IsConnected(frame) != corners {
			t.Errorf("IsConnected of the largest frame is %t", !corners)
		}
		for _, i := range []int{1, 60, 118, 121, 122, 241, len(frame) - 2, len(frame) - 60, len(frame) - 119} {
			gap := slices.Delete(slices.Clone(frame), i, i+1)
			checkHoles(t, gap, nil)
			if impl.IsConnected(gap) != corners {
				t.Errorf("IsConnected of the largest frame with the gap %d is %t", i, !corners)
			}
		}
	}
	halves := inOrderOfPoints(append(frameShape(low, 121, 61, false), points(0, 5)...))
	if holes, code := impl.HolesOf(halves); code != impl.OK || len(holes) != 1 || len(holes[0]) != 119*59 {
		t.Error("wrong hole of a frame of half the size")
	}
	checkHoles(t, points(-60, -60, 60, 60), nil)
	checkHoles(t, points(60, -60, -60, 60), nil)
}

// TestHolesAlone checks what defines holes: they are connected, free, within the bounds, not next to other free points, and all other free points have a way to the bounds.
func TestHolesAlone(t *testing.T) {
	for n := range uint64(300) {
		shape := drawShape(9000 + n)
		holes, code := impl.HolesOf(shape)
		if code != impl.OK {
			t.Fatalf("HolesOf(%v) is %s", shape, codeText(code))
		}
		taken := slices.Clone(shape)
		for i, hole := range holes {
			if !isShape(hole) || !impl.IsConnected(hole) || i > 0 && !impl.LessPoint(holes[i-1][0], hole[0]) {
				t.Fatalf("HolesOf(%v) is %v", shape, holes)
			}
			for _, p := range hole {
				for dir := range int64(4) {
					step := stepOf(dir)
					next := impl.Point{X: p.X + step.X, Y: p.Y + step.Y}
					if slices.Contains(shape, p) || !slices.Contains(shape, next) && !slices.Contains(hole, next) {
						t.Fatalf("the hole %v of %v is open at %v", hole, shape, p)
					}
				}
			}
			taken = append(taken, hole...)
		}
		filled := inOrderOfPoints(taken)
		if list, code := impl.HolesOf(filled); len(list) != 0 || code != impl.OK {
			t.Fatalf("with its holes, %v has the holes %v", shape, list)
		}
	}
}

func TestIsConnected(t *testing.T) {
	connected := [][]impl.Point{
		points(0, 0), points(60, 60), points(-60, -60), points(0, 0, 1, 0), points(0, 0, 0, 1), points(1, 0, 0, 1, 1, 1), points(0, 0, 1, 0, 1, 1), points(0, 0, 2, 0, 0, 1, 1, 1, 2, 1),
		pointsIn(rowsAssembly(impl.Point{X: -12, Y: -10}, 25, 500)), pointsIn(rowsAssembly(impl.Point{X: -60, Y: -60}, 121, 500)), pointsIn(rowsAssembly(impl.Point{X: -60, Y: 60}, 121, 121)),
		pointsIn(snakeAssembly(impl.Point{X: -20, Y: -12}, 40, 500)), pointsIn(snakeAssembly(impl.Point{X: -3, Y: -60}, 9, 500)), frameShape(impl.Point{X: -60, Y: -60}, 121, 121, true),
	}
	separate := [][]impl.Point{
		points(0, 0, 1, 1), points(1, 0, 0, 1), points(0, 0, 2, 0), points(0, 0, 0, 2), points(60, 0, -60, 1), points(-60, 0, 60, 0), points(0, -60, 0, 60), points(0, 0, 1, 0, 3, 0), points(0, 0, 2, 0, 3, 0),
		points(-60, -60, 60, 60), points(0, 0, 1, 1, 2, 2), pointsIn(chessAssembly(impl.Point{X: -20, Y: -7}, 500)), frameShape(impl.Point{X: -60, Y: -60}, 121, 121, false),
		inOrderOfPoints(append(pointsIn(rowsAssembly(impl.Point{X: -12, Y: -10}, 25, 499)), impl.Point{X: 60, Y: 60})),
		inOrderOfPoints(append(pointsIn(rowsAssembly(impl.Point{X: -12, Y: -10}, 25, 499)), impl.Point{X: 60, Y: -60})),
	}
	for i, shape := range append(connected, separate...) {
		if impl.IsConnected(shape) != (i < len(connected)) {
			t.Errorf("IsConnected(%v) is %t", shape, i >= len(connected))
		}
		if list := partsIn(shape); (len(list) == 1) != (i < len(connected)) {
			t.Errorf("%v has %d parts", shape, len(list))
		}
	}
}

func TestPerimeterOf(t *testing.T) {
	for _, c := range []struct {
		shape []impl.Point
		want  int64
	}{
		{points(0, 0), 4}, {points(60, 60), 4}, {points(-60, -60), 4}, {points(60, -60), 4}, {points(59, 60, 60, 60), 6}, {points(-60, -60, -60, -59), 6}, {points(0, 0, 1, 1), 8}, {points(-60, 0, 60, 0), 8},
		{shapeOf("###/#.#/###"), 16}, {shapeOf("##/##"), 8}, {shapeOf("####/####"), 12}, {shapeOf(strings.Repeat("#", 60)), 122},
		{pointsIn(rowsAssembly(impl.Point{X: -12, Y: -10}, 25, 500)), 90}, {pointsIn(rowsAssembly(impl.Point{X: 36, Y: 41}, 25, 500)), 90}, {pointsIn(chessAssembly(impl.Point{X: -20, Y: -7}, 500)), 2000},
		{pointsIn(rowsAssembly(impl.Point{X: -60, Y: -60}, 121, 500)), 2*121 + 2*5}, {frameShape(impl.Point{X: -60, Y: -60}, 121, 121, true), 4*121 + 4*119},
	} {
		if n, code := impl.PerimeterOf(c.shape); n != c.want || code != impl.OK {
			t.Errorf("PerimeterOf(%v) is %d, %s, not %d", c.shape, n, codeText(code), c.want)
		}
		if n := perimeterIn(c.shape); n != c.want {
			t.Error(fmt.Sprint(c.shape), "has the perimeter", n)
		}
	}
}
