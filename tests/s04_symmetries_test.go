package tests

import (
	"fmt"
	"slices"
	"testing"

	"loop.example/g01081/impl"
)

// turnedShape says what TurnShape must return for a valid shape and a symmetry: the points of the turned rows, if they fit.
func turnedShape(shape []impl.Point, symmetry int64) ([]impl.Point, int64) {
	rows := turnedRows(rowsOf(shape), symmetry)
	if len(rows) > 61 || len(rows[0]) > 61 {
		return nil, impl.ErrRange
	}
	return pointsOfRows(rows), impl.OK
}

// symmetriesIn says what SymmetriesOf must return for a valid shape: the symmetries that do not change its rows.
func symmetriesIn(shape []impl.Point) []int64 {
	var list []int64
	rows := rowsOf(shape)
	for symmetry := range int64(8) {
		if slices.Equal(turnedRows(rows, symmetry), rows) {
			list = append(list, symmetry)
		}
	}
	return list
}

func checkTurns(t *testing.T, shape []impl.Point) {
	t.Helper()
	for symmetry := range int64(8) {
		want, wantCode := turnedShape(shape, symmetry)
		got, code := impl.TurnShape(shape, symmetry)
		checkShape(t, fmt.Sprintf("TurnShape(%v, %d)", shape, symmetry), got, code, want, wantCode)
	}
	want, wantCode := turnedShape(shape, 0)
	got, code := impl.HomeShape(shape)
	checkShape(t, fmt.Sprintf("HomeShape(%v)", shape), got, code, want, wantCode)
	if list, code := impl.SymmetriesOf(shape); !slices.Equal(list, symmetriesIn(shape)) || code != impl.OK {
		t.Fatalf("SymmetriesOf(%v) is %v, %s, not %v", shape, list, codeText(code), symmetriesIn(shape))
	}
}

func TestTurnShape(t *testing.T) {
	for _, shape := range append(validShapes(), gridShapes(4, 3)...) {
		checkTurns(t, shape)
	}
	for n := range uint64(300) {
		checkTurns(t, drawShape(1000+n))
	}
}

// TestTurnShapeTable turns shapes that no symmetry, one, three or all but those that keep a line leave as they are.
func TestTurnShapeTable(t *testing.T) {
	for _, turned := range [][8]string{
		{"#./##", "##/#.", "##/.#", ".#/##", ".#/##", "#./##", "##/#.", "##/.#"},
		{"###/#..", "##/.#/.#", "..#/###", "#./#./##", "###/..#", ".#/.#/##", "#../###", "##/#./#."},
		{".##/##./.#.", ".#./###/..#", ".#./.##/##.", "#../###/.#.", "##./.##/.#.", "..#/###/.#.", ".#./##./.##", ".#./###/#.."},
		{"##.#/#.../####", "###/#.#/#../#.#", "####/...#/#.##", "#.#/..#/#.#/###", "#.##/...#/####", "#.#/#../#.#/###", "####/#.../##.#", "###/#.#/..#/#.#"},
		{"##./.##", ".#/##/#.", "##./.##", ".#/##/#.", ".##/##.", "#./##/.#", ".##/##.", "#./##/.#"},
		{"###/.#.", ".#/##/.#", ".#./###", "#./##/#.", "###/.#.", ".#/##/.#", ".#./###", "#./##/#."},
		{"#.#", "#/./#", "#.#", "#/./#", "#.#", "#/./#", "#.#", "#/./#"},
		{"#", "#", "#", "#", "#", "#", "#", "#"},
	} {
		shape, seen := shapeOf(turned[0]), map[string]bool{}
		for symmetry, want := range turned {
			list, code := impl.TurnShape(movedBy(shape, -7, 11), int64(symmetry))
			if got := impl.ShapeText(list); got != want || code != impl.OK {
				t.Errorf("%s after the symmetry %d is %s, %s, not %s", turned[0], symmetry, got, codeText(code), want)
			}
			seen[want] = true
		}
		if list, code := impl.SymmetriesOf(shape); len(list)*len(seen) != 8 || code != impl.OK {
			t.Errorf("%s has the symmetries %v and %d texts", turned[0], list, len(seen))
		}
	}
}

func TestSymmetriesOf(t *testing.T) {
	for _, known := range knownShapes() {
		home := shapeOf(known.text)
		for _, shape := range [][]impl.Point{home, movedBy(home, -60, -60), movedBy(home, 50, 3)} {
			if list, code := impl.SymmetriesOf(shape); !slices.Equal(list, known.symmetries) || code != impl.OK {
				t.Errorf("SymmetriesOf(%v) is %v, %s, not %v", shape, list, codeText(code), known.symmetries)
			}
		}
	}
}

// TestTurnShapeRange has numbers that are no symmetries, with shapes that fit and with wide ones.
func TestTurnShapeRange(t *testing.T) {
	for _, shape := range [][]impl.Point{points(0, 0), points(0, 0, 1, 0, 0, 1), points(-60, 0, 60, 0), pointsIn(rowsAssembly(impl.Point{X: -12, Y: -10}, 25, 500))} {
		for _, symmetry := range append(edgeNumbers(), 6, 7, 8, 13, 15, 16, -7, -8) {
			want, wantCode := []impl.Point(nil), int64(impl.ErrRange)
			if symmetry >= 0 && symmetry <= 7 {
				want, wantCode = turnedShape(shape, symmetry)
			}
			got, code := impl.TurnShape(shape, symmetry)
			checkShape(t, fmt.Sprintf("TurnShape(%v, %d)", shape, symmetry), got, code, want, wantCode)
		}
	}
}

// TestWideShapes has shapes with 60 to 63 and 121 columns or rows at each border: 61 come home, and 62 do not.
func TestWideShapes(t *testing.T) {
	for _, width := range []int64{60, 61, 62, 63, 120, 121} {
		for _, low := range []int64{-60, -30, 61 - width} {
			if low+width-1 > 60 {
				continue
			}
			row, column := points(low, 5, low+width-1, 5), points(5, low, 5, low+width-1)
			slope := points(low, 3, low+width-2, 4, low+width-1, 4)
			for _, shape := range [][]impl.Point{row, column, slope, points(low, low, low+width-1, low+width-1), frameShape(impl.Point{X: low, Y: low}, width, width, true)} {
				checkTurns(t, shape)
				wantCode := int64(impl.OK)
				if width > 61 {
					wantCode = impl.ErrRange
				}
				for symmetry := range int64(8) {
					if list, code := impl.TurnShape(shape, symmetry); code != wantCode || (code != impl.OK) != (len(list) == 0) {
						t.Errorf("TurnShape of %d columns or rows by %d is %v, %s", width, symmetry, list, codeText(code))
					}
				}
			}
			for _, shape := range [][]impl.Point{row, column} {
				if list, code := impl.SymmetriesOf(shape); !slices.Equal(list, []int64{0, 2, 4, 6}) || code != impl.OK {
					t.Errorf("SymmetriesOf(%v) is %v, %s", shape, list, codeText(code))
				}
			}
			if list, code := impl.SymmetriesOf(slope); !slices.Equal(list, []int64{0}) || code != impl.OK {
				t.Errorf("SymmetriesOf(%v) is %v, %s", slope, list, codeText(code))
			}
		}
	}
}

func TestHomeShape(t *testing.T) {
	cases := []struct{ shape, home []impl.Point }{
		{points(-4, 5, -3, 4), nil}, // out of order
		{points(-3, 4, -4, 5), points(1, 0, 0, 1)}, {points(0, 0), points(0, 0)}, {points(60, -60), points(0, 0)}, {points(-60, 60), points(0, 0)},
		{points(2, 0, -1, 3), points(3, 0, 0, 3)}, {points(-60, 0, 0, 0), points(0, 0, 60, 0)}, {points(0, 0, 60, 60), points(0, 0, 60, 60)},
		{points(5, 5, 6, 5, 4, 6), points(1, 0, 2, 0, 0, 1)}, {points(0, 0, 1, 0, 0, 1), points(0, 0, 1, 0, 0, 1)},
	}
	for i, c := range cases {
		wantCode := int64(impl.OK)
		if i == 0 {
			wantCode = impl.ErrInvalid
		}
		got, code := impl.HomeShape(c.shape)
		checkShape(t, fmt.Sprintf("HomeShape(%v)", c.shape), got, code, c.home, wantCode)
	}
	for _, shape := range [][]impl.Point{points(-60, 0, 60, 0), points(-60, 0, 1, 0), points(0, -1, 0, 60), points(-1, -1, 60, 60)} {
		got, code := impl.HomeShape(shape)
		checkShape(t, fmt.Sprintf("HomeShape(%v)", shape), got, code, nil, impl.ErrRange)
	}
}

// afterBoth is the symmetry that does what the symmetry a and then the symmetry b do: mirroring turns the other way what was turned before.
func afterBoth(a, b int64) int64 {
	if b >= 4 {
		return (b%4-a%4+4)%4 + (4 - a/4*4)
	}
	return (a%4+b)%4 + a/4*4
}

// TestSymmetryLaws turns shapes twice, and back, and checks that turning keeps all that it must.
func TestSymmetryLaws(t *testing.T) {
	list := knownPoints()
	for n := range uint64(60) {
		list = append(list, drawShape(3000+n))
	}
	list = append(list, frameShape(impl.Point{X: -60, Y: 0}, 61, 40, false), pointsIn(rowsAssembly(impl.Point{X: -12, Y: -10}, 25, 490)))
	for _, shape := range list {
		home, _ := impl.HomeShape(shape)
		symmetries, _ := impl.SymmetriesOf(shape)
		images := map[string]bool{}
		for a := range int64(8) {
			once, code := impl.TurnShape(shape, a)
			checkKept(t, shape, once, code, a)
			images[impl.ShapeText(once)] = true
			back := false
			for b := range int64(8) {
				twice, _ := impl.TurnShape(once, b)
				both, _ := impl.TurnShape(shape, afterBoth(a, b))
				if !slices.Equal(twice, both) {
					t.Fatalf("%v after the symmetries %d and %d is %v, after %d it is %v", shape, a, b, twice, afterBoth(a, b), both)
				}
				back = back || afterBoth(a, b) == 0 && slices.Equal(twice, home)
				if slices.Contains(symmetries, a) && slices.Contains(symmetries, b) && !slices.Contains(symmetries, afterBoth(a, b)) {
					t.Fatalf("%v has the symmetries %v, but not that of %d and %d", shape, symmetries, a, b)
				}
			}
			if !back {
				t.Fatalf("no symmetry turns %v back after %d", shape, a)
			}
		}
		if len(symmetries)*len(images) != 8 {
			t.Fatalf("%v has the symmetries %v and %d images", shape, symmetries, len(images))
		}
	}
}

// checkKept checks what a turned shape has in common with the shape: the number of points, the perimeter, connection, the sizes of holes, the lengths of sides, and how many symmetries.
func checkKept(t *testing.T, shape, turned []impl.Point, code, symmetry int64) {
	t.Helper()
	if code != impl.OK || !impl.ValidShape(turned) {
		t.Fatalf("TurnShape(%v, %d) is %v, %s", shape, symmetry, turned, codeText(code))
	}
	if was, is := featuresOf(shape, 1, symmetry%2 == 1), featuresOf(turned, 1, false); was != is {
		t.Fatalf("%v has %s, and after the symmetry %d %s", shape, was, symmetry, is)
	}
	low, _ := limitsOf(turned)
	if low != (impl.Point{}) {
		t.Fatalf("TurnShape(%v, %d) has the least coordinates %v", shape, symmetry, low)
	}
}

// featuresOf tells what symmetries and scaling keep of a shape, as it must be for the shape scaled by k, with columns and rows exchanged if they are to be.
func featuresOf(shape []impl.Point, k int64, exchanged bool) string {
	low, high := limitsOf(shape)
	sides := []int64{(high.X - low.X + 1) * k, (high.Y - low.Y + 1) * k}
	if exchanged {
		slices.Reverse(sides)
	}
	holes, _ := impl.HolesOf(shape)
	var sizes []int64
	for _, hole := range holes {
		sizes = append(sizes, int64(len(hole))*k*k)
	}
	slices.Sort(sizes)
	perimeter, _ := impl.PerimeterOf(shape)
	symmetries, _ := impl.SymmetriesOf(shape)
	return fmt.Sprint(int64(len(shape))*k*k, " points, the sides ", sides, ", holes of ", sizes, ", the perimeter ", perimeter*k, ", ", len(symmetries), " symmetries, connected: ", impl.IsConnected(shape))
}
