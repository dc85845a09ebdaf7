package tests

import (
	"fmt"
	"slices"
	"testing"

	"loop.example/g01081/impl"
)

func TestPointsOf(t *testing.T) {
	for _, a := range formedAssemblies() {
		var want []impl.Point
		for _, x := range a.Tiles {
			want = append(want, x.At)
		}
		if got := impl.PointsOf(a); !slices.Equal(got, want) {
			t.Errorf("PointsOf(%v) is %v", a, got)
		}
	}
}

func TestBoundsOf(t *testing.T) {
	for _, a := range formedAssemblies() {
		var xs, ys []int64
		for _, x := range a.Tiles {
			xs, ys = append(xs, x.At.X), append(ys, x.At.Y)
		}
		low, high, code := impl.BoundsOf(a)
		if len(xs) == 0 {
			if low != (impl.Point{}) || high != (impl.Point{}) || code != impl.ErrNotFound {
				t.Errorf("BoundsOf no tiles is %v, %v, %d", low, high, code)
			}
			continue
		}
		wantLow, wantHigh := impl.Point{X: slices.Min(xs), Y: slices.Min(ys)}, impl.Point{X: slices.Max(xs), Y: slices.Max(ys)}
		if low != wantLow || high != wantHigh || code != impl.OK {
			t.Errorf("BoundsOf(%v) is %v, %v, %d", a, low, high, code)
		}
	}
	cases := []struct {
		a         impl.Assembly
		low, high impl.Point
	}{
		{assembly(placed(2, 0, 1), placed(-1, 3, 2)), impl.Point{X: -1}, impl.Point{X: 2, Y: 3}},
		{assembly(placed(-1, 0, 1), placed(2, 3, 2)), impl.Point{X: -1}, impl.Point{X: 2, Y: 3}},
		{assembly(placed(5, 7, 1)), impl.Point{X: 5, Y: 7}, impl.Point{X: 5, Y: 7}},
		{assembly(placed(-5, -7, 1)), impl.Point{X: -5, Y: -7}, impl.Point{X: -5, Y: -7}},
		{assembly(placed(3, -9, 1), placed(-8, -5, 2), placed(1, -5, 2), placed(9, -4, 3), placed(2, -2, 1)), impl.Point{X: -8, Y: -9}, impl.Point{X: 9, Y: -2}},
		{assembly(placed(-60, -60, 0), placed(60, 60, 0)), impl.Point{X: -60, Y: -60}, impl.Point{X: 60, Y: 60}},
		{assembly(placed(60, -60, 0), placed(-60, 60, 0)), impl.Point{X: -60, Y: -60}, impl.Point{X: 60, Y: 60}},
	}
	for _, c := range cases {
		if low, high, code := impl.BoundsOf(c.a); low != c.low || high != c.high || code != impl.OK {
			t.Errorf("BoundsOf(%v) is %v, %v, %d", c.a, low, high, code)
		}
	}
}

// movedAssembly says what MoveAssembly must return for an assembly with the form.
func movedAssembly(a impl.Assembly, by impl.Point) (impl.Assembly, int64) {
	if by.X < -120 || by.X > 120 || by.Y < -120 || by.Y > 120 {
		return impl.Assembly{}, impl.ErrRange
	}
	var moved impl.Assembly
	for _, x := range a.Tiles {
		x.At.X += by.X
		x.At.Y += by.Y
		if !isValidPoint(x.At) {
			return impl.Assembly{}, impl.ErrRange
		}
		moved.Tiles = append(moved.Tiles, x)
	}
	return moved, impl.OK
}

func checkMove(t *testing.T, a impl.Assembly, by impl.Point) {
	t.Helper()
	what := fmt.Sprintf("MoveAssembly(%v, %v)", a, by)
	want, wantCode := movedAssembly(a, by)
	got, code := impl.MoveAssembly(a, by)
	checkAssembly(t, what, got, code, want, wantCode)
	if code == impl.OK {
		back, code := impl.MoveAssembly(got, impl.Point{X: -by.X, Y: -by.Y})
		checkAssembly(t, what+" and back", back, code, a, impl.OK)
	}
}

func TestMoveAssembly(t *testing.T) {
	moves := []impl.Point{{}, {X: 1}, {X: -1}, {Y: 1}, {Y: -1}, {X: 3, Y: -5}, {X: -40, Y: 17}, {X: 48, Y: 50}, {X: 35, Y: -50}, {X: 36}, {X: -48}, {X: -49}, {Y: 51}, {Y: -50}, {Y: -51}}
	for _, a := range formedAssemblies() {
		for _, by := range moves {
			checkMove(t, a, by)
		}
	}
}

// TestMoveAssemblyLimits has all moves along the axes around the limits, also of the empty assembly, and moves far beyond them.
func TestMoveAssemblyLimits(t *testing.T) {
	var moves []int64
	for n := int64(-123); n <= 123; n++ {
		moves = append(moves, n)
	}
	moves = append(moves, edgeNumbers()...)
	for _, a := range smallAssemblies() {
		for _, n := range moves {
			for _, by := range []impl.Point{{X: n}, {Y: n}, {X: n, Y: n}, {X: n, Y: 121}, {X: -121, Y: n}} {
				checkMove(t, a, by)
			}
		}
	}
	for _, by := range edgePoints() {
		checkMove(t, impl.Assembly{}, by)
		checkMove(t, plainAssembly(), by)
		checkMove(t, assembly(placed(60, -60, 4)), by)
	}
}

// TestMoveAssemblyCorners moves a tile from each corner of the plane to each other one, and one point further.
func TestMoveAssemblyCorners(t *testing.T) {
	for _, from := range []impl.Point{{X: -60, Y: -60}, {X: 60, Y: -60}, {X: -60, Y: 60}, {X: 60, Y: 60}} {
		a := assembly(placed(from.X, from.Y, 159))
		for _, x := range []int64{-60, 60} {
			for _, y := range []int64{-60, 60} {
				by := impl.Point{X: x - from.X, Y: y - from.Y}
				got, code := impl.MoveAssembly(a, by)
				checkAssembly(t, fmt.Sprint("MoveAssembly from corner to corner by ", by), got, code, assembly(placed(x, y, 159)), impl.OK)
				for _, beyond := range []impl.Point{{X: by.X + x/60, Y: by.Y}, {X: by.X, Y: by.Y + y/60}} {
					got, code = impl.MoveAssembly(a, beyond)
					checkAssembly(t, fmt.Sprint("MoveAssembly beyond a corner by ", beyond), got, code, impl.Assembly{}, impl.ErrRange)
				}
			}
		}
	}
}

// TestMoveAssemblyLast has moves by which only one of many points, the first, the last or one between them, comes to a limit or beyond.
func TestMoveAssemblyLast(t *testing.T) {
	a := assembly(placed(0, -9, 1), placed(-8, -5, 2), placed(1, -5, 2), placed(9, -4, 3), placed(2, -2, 1))
	for _, c := range []struct{ exact, beyond impl.Point }{
		{impl.Point{Y: -51}, impl.Point{Y: -52}}, {impl.Point{X: -52}, impl.Point{X: -53}}, {impl.Point{X: 51}, impl.Point{X: 52}}, {impl.Point{Y: 62}, impl.Point{Y: 63}},
		{impl.Point{X: -52, Y: -51}, impl.Point{X: -52, Y: -52}}, {impl.Point{X: 51, Y: 62}, impl.Point{X: 52, Y: 62}},
	} {
		want, _ := movedAssembly(a, c.exact)
		got, code := impl.MoveAssembly(a, c.exact)
		checkAssembly(t, fmt.Sprint("MoveAssembly by ", c.exact), got, code, want, impl.OK)
		got, code = impl.MoveAssembly(a, c.beyond)
		checkAssembly(t, fmt.Sprint("MoveAssembly by ", c.beyond), got, code, impl.Assembly{}, impl.ErrRange)
	}
}
