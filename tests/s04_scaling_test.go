package tests

import (
	"fmt"
	"slices"
	"testing"

	"loop.example/g01081/impl"
)

// scaledShape says what ScaleShape must return for a valid shape.
func scaledShape(shape []impl.Point, k int64) ([]impl.Point, int64) {
	if k < 1 || k > 60 {
		return nil, impl.ErrRange
	}
	if int64(len(shape)) > 500/(k*k) {
		return nil, impl.ErrFull
	}
	var list []impl.Point
	for _, p := range shape {
		for i := range k {
			for j := range k {
				list = append(list, impl.Point{X: k*p.X + i, Y: k*p.Y + j})
			}
		}
	}
	if slices.ContainsFunc(list, func(p impl.Point) bool { return !isValidPoint(p) }) {
		return nil, impl.ErrRange
	}
	return inOrderOfPoints(list), impl.OK
}

// squareOf is the point from which the square with a point comes when it is scaled.
func squareOf(p impl.Point, k int64) impl.Point {
	low := func(n int64) int64 { return (n+60*k)/k - 60 }
	return impl.Point{X: low(p.X), Y: low(p.Y)}
}

// unscaledShape says what UnscaleShape must return for a valid shape: the points of all squares, if each one has all its points.
func unscaledShape(shape []impl.Point, k int64) ([]impl.Point, int64) {
	if k < 1 || k > 60 {
		return nil, impl.ErrRange
	}
	counts := map[impl.Point]int64{}
	for _, p := range shape {
		counts[squareOf(p, k)]++
	}
	var list []impl.Point
	for p, n := range counts {
		if n != k*k {
			return nil, impl.ErrNotFound
		}
		list = append(list, p)
	}
	return inOrderOfPoints(list), impl.OK
}

func checkScales(t *testing.T, shape []impl.Point, k int64) {
	t.Helper()
	what := fmt.Sprintf("ScaleShape(%v, %d)", shape, k)
	want, wantCode := scaledShape(shape, k)
	got, code := impl.ScaleShape(shape, k)
	checkShape(t, what, got, code, want, wantCode)
	if code == impl.OK {
		back, code := impl.UnscaleShape(got, k)
		checkShape(t, what+" and back", back, code, shape, impl.OK)
	}
	want, wantCode = unscaledShape(shape, k)
	got, code = impl.UnscaleShape(shape, k)
	checkShape(t, fmt.Sprintf("UnscaleShape(%v, %d)", shape, k), got, code, want, wantCode)
	if code == impl.OK {
		back, code := impl.ScaleShape(got, k)
		checkShape(t, what+" after UnscaleShape", back, code, shape, impl.OK)
	}
}

// scaleFactors are factors around each limit, and numbers that are no factors.
func scaleFactors() []int64 {
	return append(edgeNumbers(), 6, 7, 8, 15, 20, 21, 22, 23, 24, 30, 31, 58, 62, 1<<32+2)
}

func TestScaleShape(t *testing.T) {
	for _, shape := range append(validShapes(), gridShapes(3, 3)...) {
		for _, k := range scaleFactors() {
			checkScales(t, shape, k)
		}
	}
}

func TestScaleShapeTable(t *testing.T) {
	cases := []struct {
		shape []impl.Point
		k     int64
		want  []impl.Point
		code  int64
	}{
		{points(1, 0), 2, points(2, 0, 3, 0, 2, 1, 3, 1), impl.OK},
		{points(0, 0), 1, points(0, 0), impl.OK},
		{points(-1, -1), 2, points(-2, -2, -1, -2, -2, -1, -1, -1), impl.OK},
		{points(0, 0, 1, 0), 2, points(0, 0, 1, 0, 2, 0, 3, 0, 0, 1, 1, 1, 2, 1, 3, 1), impl.OK},
		{points(1, 0, 0, 1), 2, points(2, 0, 3, 0, 2, 1, 3, 1, 0, 2, 1, 2, 0, 3, 1, 3), impl.OK},
		{points(-30, -30), 2, points(-60, -60, -59, -60, -60, -59, -59, -59), impl.OK},
		{points(29, 29), 2, points(58, 58, 59, 58, 58, 59, 59, 59), impl.OK},
		{points(-31, 0), 2, nil, impl.ErrRange}, {points(30, 0), 2, nil, impl.ErrRange}, {points(0, 30), 2, nil, impl.ErrRange}, {points(0, -31), 2, nil, impl.ErrRange},
		{points(60, 60), 1, points(60, 60), impl.OK}, {points(-60, -60), 1, points(-60, -60), impl.OK}, {points(60, -60), 2, nil, impl.ErrRange},
		{points(20, 0), 3, nil, impl.ErrRange}, {points(0, -21), 3, nil, impl.ErrRange}, {points(2, -3), 22, nil, impl.ErrRange}, {points(3, 0), 20, nil, impl.ErrRange}, {points(2, -3), 21, nil, impl.ErrRange},
		{points(0, 0), 23, nil, impl.ErrFull}, {points(0, 0), 60, nil, impl.ErrFull}, {points(60, 60), 60, nil, impl.ErrFull}, {points(60, 60), 23, nil, impl.ErrFull}, {points(60, 60), 22, nil, impl.ErrRange},
		{points(0, 0), 0, nil, impl.ErrRange}, {points(0, 0), 61, nil, impl.ErrRange}, {points(0, 0), -1, nil, impl.ErrRange}, {points(0, 0), 1 << 32, nil, impl.ErrRange}, {points(0, 0), -1 << 63, nil, impl.ErrRange},
		{points(0, 0), 3037000500, nil, impl.ErrRange}, {points(0, 0), 1 << 62, nil, impl.ErrRange},
	}
	for _, c := range cases {
		got, code := impl.ScaleShape(c.shape, c.k)
		checkShape(t, fmt.Sprintf("ScaleShape(%v, %d)", c.shape, c.k), got, code, c.want, c.code)
		checkScales(t, c.shape, c.k)
	}
}

// TestScaleShapeEverywhere scales one point and two at each place, so that each border is reached exactly and passed by one.
func TestScaleShapeEverywhere(t *testing.T) {
	for _, k := range []int64{1, 2, 3, 4, 5, 6, 7, 10, 12, 15, 20, 21, 22, 23} {
		for n := int64(-60); n <= 60; n++ {
			for _, shape := range [][]impl.Point{points(n, 0), points(0, n), points(n, -n), points(n, n)} {
				checkScales(t, shape, k)
			}
		}
	}
	for n := int64(-60); n < 60; n++ {
		checkScales(t, points(n, 1, n+1, 1), 2)
		checkScales(t, points(1, n, 1, n+1), 2)
		checkScales(t, points(-1, -1, n, 0, n+1, 0, 1, 1), 3)
	}
}

// TestScaleShapeCounts has shapes of which exactly 500 points come, or as many as fit, and of one point more, at home and far out.
func TestScaleShapeCounts(t *testing.T) {
	for k := int64(1); k <= 60; k++ {
		most := 500 / (k * k)
		for n := max(1, most-1); n <= most+1; n++ {
			width := int64(1)
			for width*width < n {
				width++
			}
			near := pointsIn(rowsAssembly(impl.Point{X: -width / 2, Y: -width / 2}, width, n))
			far := pointsIn(rowsAssembly(impl.Point{X: 61 - width, Y: 61 - width}, width, n))
			nearCode, farCode := int64(impl.OK), int64(impl.OK)
			switch {
			case n > 500:
				nearCode, farCode = impl.ErrInvalid, impl.ErrInvalid
			case n > most:
				nearCode, farCode = impl.ErrFull, impl.ErrFull
			case k > 1:
				farCode = impl.ErrRange
			}
			if got, code := impl.ScaleShape(near, k); code != nearCode || code == impl.OK && int64(len(got)) != n*k*k {
				t.Errorf("ScaleShape of %d points by %d has %d points and is %s", n, k, len(got), codeText(code))
			}
			if _, code := impl.ScaleShape(far, k); code != farCode {
				t.Errorf("ScaleShape of %d far points by %d is %s", n, k, codeText(code))
			}
			if n <= 500 {
				checkScales(t, near, k)
				checkScales(t, far, k)
			}
		}
	}
}

// TestUnscaleShape changes one point of scaled shapes, at each place, and moves them: no smaller shape is scaled to them then.
func TestUnscaleShape(t *testing.T) {
	for _, small := range [][]impl.Point{points(0, 0), points(1, 0), points(-1, -1), points(0, 0, 1, 0, 0, 1), points(-2, -1, 1, 0, -1, 1)} {
		for _, k := range []int64{1, 2, 3, 4, 5} {
			big, _ := scaledShape(small, k)
			got, code := impl.UnscaleShape(big, k)
			checkShape(t, fmt.Sprintf("UnscaleShape(%v, %d)", big, k), got, code, small, impl.OK)
			for i := range big {
				less := slices.Delete(slices.Clone(big), i, i+1)
				if len(less) > 0 {
					checkScales(t, less, k)
				}
				for _, step := range []impl.Point{{X: 1}, {X: -1}, {Y: 1}, {Y: -1}, {X: k}, {Y: -k}} {
					p := impl.Point{X: big[i].X + step.X, Y: big[i].Y + step.Y}
					if !slices.Contains(big, p) {
						checkScales(t, inOrderOfPoints(append(slices.Clone(big), p)), k)
						checkScales(t, inOrderOfPoints(append(less, p)), k)
					}
				}
			}
			for x := -k; x <= k; x++ {
				for y := -k; y <= k; y++ {
					moved := movedBy(big, x, y)
					checkScales(t, moved, k)
					if _, code := impl.UnscaleShape(moved, k); (code == impl.OK) != (x%k == 0 && y%k == 0) {
						t.Errorf("UnscaleShape(%v, %d) is %s", moved, k, codeText(code))
					}
				}
			}
		}
	}
}

// TestUnscaleShapeNotFound has shapes that no smaller one scales to: too few points, or as many as a scaled shape has, but others.
func TestUnscaleShapeNotFound(t *testing.T) {
	rectangle := pointsIn(rowsAssembly(impl.Point{X: -12, Y: -10}, 25, 500))
	cases := []struct {
		shape []impl.Point
		k     int64
	}{
		{points(0, 0), 2}, {points(0, 0), 60}, {points(60, 60), 60}, {points(1, 1), 2}, {points(-1, -1), 2}, {points(0, 0, 1, 0, 0, 1), 2}, {points(0, 0, 1, 0, 2, 0, 3, 0), 2},
		{points(1, 0, 2, 0, 1, 1, 2, 1), 2}, {points(0, 1, 1, 1, 0, 2, 1, 2), 2}, {points(-1, 0, 0, 0, -1, 1, 0, 1), 2}, {points(0, -1, 1, -1, 0, 0, 1, 0), 2},
		{points(0, 0, 1, 0, 0, 1, 2, 1), 2}, {points(0, 0, 2, 0, 0, 2, 2, 2), 2}, {points(0, 0, 1, 0, 0, 1, 1, 1), 3}, {points(0, 0, 1, 0, 0, 1, 1, 1), 4},
		{points(59, 59, 60, 59, 59, 60, 60, 60), 2}, {points(60, 60), 2}, {points(-60, -60, -59, -60, -60, -59), 2},
		{rectangle, 2}, {rectangle, 5}, {rectangle, 22}, {rectangle, 59}, {rectangle, 60}, {frameShape(impl.Point{X: -60, Y: -60}, 121, 121, true), 2}, {points(-60, -60, 0, -60, 60, -60, 0, 0, 60, 60), 60},
	}
	for _, c := range cases {
		got, code := impl.UnscaleShape(c.shape, c.k)
		checkShape(t, fmt.Sprintf("UnscaleShape(%v, %d)", c.shape, c.k), got, code, nil, impl.ErrNotFound)
	}
	for _, k := range []int64{0, 61, -1, -2, 1 << 32, 1<<63 - 1, -1 << 63} {
		for _, shape := range [][]impl.Point{points(0, 0), points(0, 0, 1, 0, 0, 1, 1, 1), rectangle} {
			got, code := impl.UnscaleShape(shape, k)
			checkShape(t, fmt.Sprintf("UnscaleShape(%v, %d)", shape, k), got, code, nil, impl.ErrRange)
		}
	}
	got, code := impl.UnscaleShape(pointsIn(rowsAssembly(impl.Point{X: -10, Y: -10}, 20, 500)), 5)
	checkShape(t, "UnscaleShape of 500 points", got, code, pointsIn(rowsAssembly(impl.Point{X: -2, Y: -2}, 4, 20)), impl.OK)
}

// TestScalingLaws scales shapes twice and turns scaled shapes, and checks that scaling keeps all that it must.
func TestScalingLaws(t *testing.T) {
	list := knownPoints()
	for n := range uint64(100) {
		list = append(list, drawShape(4000+n))
	}
	for _, shape := range list {
		for _, k := range []int64{1, 2, 3, 4} {
			big, code := impl.ScaleShape(shape, k)
			if code != impl.OK {
				continue
			}
			if was, is := featuresOf(shape, k, false), featuresOf(big, 1, false); was != is {
				t.Fatalf("%v scaled by %d must have %s, but has %s", shape, k, was, is)
			}
			was, _ := impl.SymmetriesOf(shape)
			if is, _ := impl.SymmetriesOf(big); !slices.Equal(was, is) {
				t.Fatalf("%v has the symmetries %v, and scaled by %d %v", shape, was, k, is)
			}
			for symmetry := range int64(8) {
				first, firstCode := impl.TurnShape(shape, symmetry)
				want, wantCode := impl.ScaleShape(first, k)
				if got, code := impl.TurnShape(big, symmetry); firstCode == impl.OK && wantCode == impl.OK {
					checkShape(t, fmt.Sprintf("%v scaled by %d and turned by %d", shape, k, symmetry), got, code, want, wantCode)
				}
			}
			for _, l := range []int64{1, 2, 3} {
				want, wantCode := impl.ScaleShape(shape, k*l)
				got, code := impl.ScaleShape(big, l)
				checkShape(t, fmt.Sprintf("%v scaled by %d and %d", shape, k, l), got, code, want, wantCode)
			}
		}
	}
}

func TestRectangleShape(t *testing.T) {
	sides := edgeNumbers()
	for n := int64(-2); n <= 63; n++ {
		sides = append(sides, n)
	}
	for _, width := range sides {
		for _, height := range sides {
			want, wantCode := []impl.Point(nil), int64(impl.OK)
			switch {
			case width < 1 || width > 60 || height < 1 || height > 60:
				wantCode = impl.ErrRange
			case width*height > 500:
				wantCode = impl.ErrFull
			default:
				want = pointsIn(rowsAssembly(impl.Point{}, width, width*height))
			}
			got, code := impl.RectangleShape(width, height)
			checkShape(t, fmt.Sprintf("RectangleShape(%d, %d)", width, height), got, code, want, wantCode)
		}
	}
}

func TestRectangleShapeTable(t *testing.T) {
	for _, c := range []struct{ width, height, count, code int64 }{
		{1, 1, 1, impl.OK}, {60, 1, 60, impl.OK}, {1, 60, 60, impl.OK}, {3, 2, 6, impl.OK}, {60, 8, 480, impl.OK}, {8, 60, 480, impl.OK},
		{25, 20, 500, impl.OK}, {20, 25, 500, impl.OK}, {10, 50, 500, impl.OK}, {50, 10, 500, impl.OK}, {22, 22, 484, impl.OK}, {9, 55, 495, impl.OK},
		{21, 24, 0, impl.ErrFull}, {24, 21, 0, impl.ErrFull}, {23, 22, 0, impl.ErrFull}, {60, 9, 0, impl.ErrFull}, {60, 60, 0, impl.ErrFull}, {56, 9, 0, impl.ErrFull},
		{61, 1, 0, impl.ErrRange}, {1, 61, 0, impl.ErrRange}, {61, 61, 0, impl.ErrRange}, {0, 1, 0, impl.ErrRange}, {1, 0, 0, impl.ErrRange}, {0, 0, 0, impl.ErrRange}, {-1, -1, 0, impl.ErrRange}, {-5, 5, 0, impl.ErrRange}, {5, -5, 0, impl.ErrRange},
		{1 << 32, 1 << 32, 0, impl.ErrRange}, {-1 << 63, -1 << 63, 0, impl.ErrRange}, {60, 61, 0, impl.ErrRange}, {61, 60, 0, impl.ErrRange}, {0, 60, 0, impl.ErrRange}, {60, 0, 0, impl.ErrRange},
	} {
		got, code := impl.RectangleShape(c.width, c.height)
		if int64(len(got)) != c.count || code != c.code {
			t.Errorf("RectangleShape(%d, %d) has %d points and is %s", c.width, c.height, len(got), codeText(code))
			continue
		}
		if code != impl.OK {
			continue
		}
		if n, code := impl.PerimeterOf(got); n != 2*(c.width+c.height) || code != impl.OK || !impl.IsConnected(got) {
			t.Errorf("RectangleShape(%d, %d) has the perimeter %d, %s", c.width, c.height, n, codeText(code))
		}
		scaled, code := impl.ScaleShape(points(0, 0), c.width)
		if c.width == c.height && (code != impl.OK || !slices.Equal(got, scaled)) {
			t.Errorf("RectangleShape(%d, %d) is not one scaled point", c.width, c.height)
		}
	}
}
