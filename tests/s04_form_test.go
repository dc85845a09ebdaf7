package tests

import (
	"slices"
	"testing"

	"loop.example/g01081/impl"
)

func TestValidShape(t *testing.T) {
	for _, shape := range validShapes() {
		if !impl.ValidShape(shape) {
			t.Errorf("ValidShape(%v) is false", shape)
		}
	}
	for _, faulty := range invalidShapes() {
		if impl.ValidShape(faulty.points) {
			t.Errorf("ValidShape is true, though: %s", faulty.why)
		}
	}
}

// TestValidShapeCounts has all numbers of points around the limits, of which nothing else is wrong.
func TestValidShapeCounts(t *testing.T) {
	for _, n := range []int64{0, 1, 2, 121, 122, 255, 256, 257, 498, 499, 500, 501, 502, 511, 512, 513, 14641} {
		shape := pointsIn(rowsAssembly(impl.Point{X: -60, Y: -60}, 121, n))
		if want := n >= 1 && n <= 500; impl.ValidShape(shape) != want {
			t.Errorf("ValidShape of %d points is %t", n, !want)
		}
	}
	if impl.ValidShape(make([]impl.Point, 1000000)) {
		t.Error("ValidShape of a million equal points is true")
	}
}

// TestValidShapePoints has shapes of one point, and of two of which the second one changes: all edge numbers are coordinates.
func TestValidShapePoints(t *testing.T) {
	for _, p := range append(validPoints(), edgePoints()...) {
		one, two := []impl.Point{p}, []impl.Point{{X: -60, Y: -60}, p}
		if want := isShape(one); impl.ValidShape(one) != want {
			t.Errorf("ValidShape(%v) is %t", one, !want)
		}
		if want := isShape(two); impl.ValidShape(two) != want {
			t.Errorf("ValidShape(%v) is %t", two, !want)
		}
	}
}

// TestOrderOfShapes has all orders of five points, two of them in one row and two in one column, and all pairs of them, equal ones as well.
func TestOrderOfShapes(t *testing.T) {
	want, right := points(1, -1, -2, 0, 0, 0, -2, 1, -3, 2), 0
	for _, order := range permutations(len(want)) {
		shape := inOrder(want, order)
		valid := impl.ValidShape(shape)
		if valid != slices.Equal(shape, want) {
			t.Errorf("ValidShape(%v) is %t", shape, valid)
		}
		if valid {
			right++
		}
	}
	if right != 1 {
		t.Error("so many orders are right:", right)
	}
	for i, p := range want {
		for j, q := range want {
			if pair := []impl.Point{p, q}; impl.ValidShape(pair) != (i < j) {
				t.Errorf("ValidShape(%v) is %t", pair, i >= j)
			}
		}
	}
}

func TestSameShape(t *testing.T) {
	list := append(validShapes(), nil)
	for _, faulty := range invalidShapes() {
		if len(faulty.points) < 8 {
			list = append(list, faulty.points)
		}
		if !impl.SameShape(faulty.points, slices.Clone(faulty.points)) {
			t.Errorf("SameShape is false for a list and itself, though: %s", faulty.why)
		}
	}
	for _, a := range list {
		for _, b := range list {
			if want := slices.Equal(a, b); impl.SameShape(a, b) != want {
				t.Fatalf("SameShape(%v, %v) is %t", a, b, !want)
			}
		}
	}
}

// TestSameShapeChanges changes one thing at each place of a shape.
func TestSameShapeChanges(t *testing.T) {
	plain := func() []impl.Point { return points(-2, -1, 0, -1, -3, 0, -2, 0, 1, 0, 0, 1) }
	changes := map[string]func(shape []impl.Point, i int) []impl.Point{
		"one X more":           func(shape []impl.Point, i int) []impl.Point { shape[i].X++; return shape },
		"one Y less":           func(shape []impl.Point, i int) []impl.Point { shape[i].Y--; return shape },
		"another X":            func(shape []impl.Point, i int) []impl.Point { shape[i].X += 1 << 32; return shape },
		"another Y":            func(shape []impl.Point, i int) []impl.Point { shape[i].Y -= 1 << 32; return shape },
		"one point less":       func(shape []impl.Point, i int) []impl.Point { return slices.Delete(shape, i, i+1) },
		"one point twice":      func(shape []impl.Point, i int) []impl.Point { return slices.Insert(shape, i, shape[i]) },
		"no point after this":  func(shape []impl.Point, i int) []impl.Point { return shape[:i] },
		"no point before this": func(shape []impl.Point, i int) []impl.Point { return shape[i+1:] },
		"another order": func(shape []impl.Point, i int) []impl.Point {
			j := (i + 1) % len(shape)
			shape[i], shape[j] = shape[j], shape[i]
			return shape
		},
	}
	for what, change := range changes {
		for i := range plain() {
			shape := change(plain(), i)
			if impl.SameShape(shape, plain()) || impl.SameShape(plain(), shape) {
				t.Errorf("SameShape is true with a change at %d: %s", i, what)
			}
			if !impl.SameShape(shape, slices.Clone(shape)) {
				t.Errorf("SameShape is false for a list and itself after a change at %d: %s", i, what)
			}
		}
	}
	empty := [][]impl.Point{nil, {}, plain()[:0]}
	for _, a := range empty {
		for _, b := range empty {
			if !impl.SameShape(a, b) {
				t.Errorf("SameShape(%#v, %#v) is false", a, b)
			}
		}
	}
}

// TestShapesInvalid has points that are no shape, with symmetries and factors that are right or wrong: ErrInvalid comes first.
func TestShapesInvalid(t *testing.T) {
	for _, faulty := range invalidShapes() {
		shape := faulty.points
		if text := impl.ShapeText(shape); text != "" {
			t.Errorf("ShapeText is %q, though: %s", text, faulty.why)
		}
		if impl.IsConnected(shape) {
			t.Errorf("IsConnected is true, though: %s", faulty.why)
		}
		got, code := impl.HomeShape(shape)
		checkShape(t, "HomeShape, though: "+faulty.why, got, code, nil, impl.ErrInvalid)
		for _, n := range []int64{0, 1, 2, 3, 7, 8, 60, 61, -1} {
			got, code := impl.TurnShape(shape, n)
			checkShape(t, "TurnShape, though: "+faulty.why, got, code, nil, impl.ErrInvalid)
			got, code = impl.ScaleShape(shape, n)
			checkShape(t, "ScaleShape, though: "+faulty.why, got, code, nil, impl.ErrInvalid)
			got, code = impl.UnscaleShape(shape, n)
			checkShape(t, "UnscaleShape, though: "+faulty.why, got, code, nil, impl.ErrInvalid)
		}
		if list, code := impl.SymmetriesOf(shape); len(list) != 0 || code != impl.ErrInvalid {
			t.Errorf("SymmetriesOf is %v, %d, though: %s", list, code, faulty.why)
		}
		if holes, code := impl.HolesOf(shape); len(holes) != 0 || code != impl.ErrInvalid {
			t.Errorf("HolesOf is %v, %d, though: %s", holes, code, faulty.why)
		}
		if n, code := impl.PerimeterOf(shape); n != 0 || code != impl.ErrInvalid {
			t.Errorf("PerimeterOf is %d, %d, though: %s", n, code, faulty.why)
		}
	}
}

// checkShape compares a shape with what it must be.
func checkShape(t *testing.T, what string, got []impl.Point, code int64, want []impl.Point, wantCode int64) {
	t.Helper()
	if code != wantCode || !slices.Equal(got, want) {
		t.Fatalf("%s: got %v, %s, not %v, %s", what, got, codeText(code), want, codeText(wantCode))
	}
}
