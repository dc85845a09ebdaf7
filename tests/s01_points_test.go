package tests

import (
	"math"
	"math/big"
	"slices"
	"testing"

	"loop.example/g01081/impl"
)

// stepOf says where the next point in a direction is.
func stepOf(dir int64) impl.Point {
	switch dir {
	case impl.DiNorth:
		return impl.Point{Y: 1}
	case impl.DiEast:
		return impl.Point{X: 1}
	case impl.DiSouth:
		return impl.Point{Y: -1}
	}
	return impl.Point{X: -1}
}

func isValidPoint(p impl.Point) bool {
	return p.X >= -60 && p.X <= 60 && p.Y >= -60 && p.Y <= 60
}

func TestDirections(t *testing.T) {
	names := []string{"north", "east", "south", "west"}
	for dir, name := range names {
		if got := impl.DirName(int64(dir)); got != name {
			t.Errorf("DirName(%d) is %q", dir, got)
		}
		want := int64(dir+2) % 4
		if got := impl.Opposite(int64(dir)); got != want {
			t.Errorf("Opposite(%d) is %d", dir, got)
		}
	}
	for _, dir := range edgeNumbers() {
		if dir >= 0 && dir <= 3 {
			continue
		}
		if name, opposite := impl.DirName(dir), impl.Opposite(dir); name != "" || opposite != -1 {
			t.Errorf("direction %d: %q, %d", dir, name, opposite)
		}
	}
}

func TestValidPoint(t *testing.T) {
	for _, p := range edgePoints() {
		if impl.ValidPoint(p) != isValidPoint(p) {
			t.Errorf("ValidPoint(%v) is %t", p, !isValidPoint(p))
		}
	}
	for _, p := range validPoints() {
		if !impl.ValidPoint(p) {
			t.Errorf("ValidPoint(%v) is false", p)
		}
	}
}

func TestLessPoint(t *testing.T) {
	points := edgePoints()
	for _, a := range points {
		for _, b := range points {
			want := a.Y < b.Y || a.Y == b.Y && a.X < b.X
			if impl.LessPoint(a, b) != want {
				t.Fatalf("LessPoint(%v, %v) is %t", a, b, !want)
			}
		}
	}
	low, high := impl.Point{X: math.MaxInt64, Y: math.MinInt64}, impl.Point{X: math.MinInt64, Y: math.MaxInt64}
	if !impl.LessPoint(low, high) || impl.LessPoint(high, low) {
		t.Error("wrong order of the extremes")
	}
}

// TestLessPointSorts checks that the order is that of the rows from south to north, each from west to east.
func TestLessPointSorts(t *testing.T) {
	want := validPoints()
	for i := 1; i < len(want); i++ {
		if !impl.LessPoint(want[i-1], want[i]) || impl.LessPoint(want[i], want[i-1]) {
			t.Fatalf("wrong order of %v and %v", want[i-1], want[i])
		}
	}
	got := make([]impl.Point, len(want))
	for i := range want {
		got[i*7%len(want)] = want[i]
	}
	slices.SortFunc(got, func(a, b impl.Point) int {
		switch {
		case impl.LessPoint(a, b):
			return -1
		case impl.LessPoint(b, a):
			return 1
		}
		return 0
	})
	if !slices.Equal(got, want) {
		t.Error("sorting by LessPoint gives another order")
	}
}

func TestStepPoint(t *testing.T) {
	for _, p := range append(validPoints(), edgePoints()...) {
		for dir := int64(impl.DiNorth); dir <= impl.DiWest; dir++ {
			step := stepOf(dir)
			want, wantCode := impl.Point{X: p.X + step.X, Y: p.Y + step.Y}, int64(impl.OK)
			if !isValidPoint(p) || !isValidPoint(want) {
				want, wantCode = impl.Point{}, impl.ErrRange
			}
			if got, code := impl.StepPoint(p, dir); got != want || code != wantCode {
				t.Errorf("StepPoint(%v, %d) is %v, %d", p, dir, got, code)
			}
		}
	}
}

func TestStepPointNoDirection(t *testing.T) {
	points := []impl.Point{{}, {X: 3, Y: -4}, {X: 60, Y: 60}, {X: 61}, {X: math.MinInt64, Y: math.MaxInt64}}
	for _, dir := range edgeNumbers() {
		if dir >= 0 && dir <= 3 {
			continue
		}
		for _, p := range points {
			if got, code := impl.StepPoint(p, dir); got != (impl.Point{}) || code != impl.ErrRange {
				t.Errorf("StepPoint(%v, %d) is %v, %d", p, dir, got, code)
			}
		}
	}
}

// TestStepBack checks that a step and the opposite one lead back, and that DirBetween finds both.
func TestStepBack(t *testing.T) {
	for _, p := range validPoints() {
		for dir := int64(impl.DiNorth); dir <= impl.DiWest; dir++ {
			next, code := impl.StepPoint(p, dir)
			if code != impl.OK {
				continue
			}
			if back, code := impl.StepPoint(next, impl.Opposite(dir)); back != p || code != impl.OK {
				t.Errorf("from %v in direction %d and back: %v, %d", p, dir, back, code)
			}
			there, code := impl.DirBetween(p, next)
			if there != dir || code != impl.OK {
				t.Errorf("DirBetween(%v, %v) is %d, %d", p, next, there, code)
			}
			back, code := impl.DirBetween(next, p)
			if back != impl.Opposite(dir) || code != impl.OK {
				t.Errorf("DirBetween(%v, %v) is %d, %d", next, p, back, code)
			}
		}
	}
}

func TestDirBetweenFar(t *testing.T) {
	for _, a := range []impl.Point{{}, {X: 5, Y: -7}, {X: 58, Y: 58}, {X: -58, Y: -58}} {
		for x := int64(-2); x <= 2; x++ {
			for y := int64(-2); y <= 2; y++ {
				b := impl.Point{X: a.X + x, Y: a.Y + y}
				if x*x+y*y == 1 {
					continue
				}
				if dir, code := impl.DirBetween(a, b); dir != 0 || code != impl.ErrNotFound {
					t.Errorf("DirBetween(%v, %v) is %d, %d", a, b, dir, code)
				}
			}
		}
	}
	// The edges of the plane do not touch, and rows do not go on in the next one.
	far := [][2]impl.Point{{{X: 60}, {X: -60}}, {{Y: 60}, {Y: -60}}, {{X: 60}, {X: -60, Y: 1}}, {{X: 60, Y: 60}, {X: -60, Y: -60}}, {{X: 60}, {X: -60, Y: -1}}}
	for _, pair := range far {
		if dir, code := impl.DirBetween(pair[0], pair[1]); dir != 0 || code != impl.ErrNotFound {
			t.Errorf("DirBetween(%v) is %d, %d", pair, dir, code)
		}
		if dir, code := impl.DirBetween(pair[1], pair[0]); dir != 0 || code != impl.ErrNotFound {
			t.Errorf("DirBetween(%v), exchanged, is %d, %d", pair, dir, code)
		}
	}
}

// TestDirBetweenInvalid has pairs next to each other, far apart and equal: the limits come first.
func TestDirBetweenInvalid(t *testing.T) {
	pairs := [][2]impl.Point{
		{{X: 60}, {X: 61}}, {{X: -60}, {X: -61}}, {{Y: 60}, {Y: 61}}, {{Y: -60}, {Y: -61}},
		{{X: 61}, {X: 61}}, {{X: 61}, {X: 62}}, {{}, {X: 61}}, {{}, {Y: -61}}, {{X: math.MaxInt64}, {X: math.MinInt64}}, {{Y: math.MaxInt64}, {Y: math.MinInt64}},
		{{}, {X: 1 << 32, Y: 1}}, {{}, {X: 1<<32 + 1}},
	}
	for _, pair := range pairs {
		if dir, code := impl.DirBetween(pair[0], pair[1]); dir != 0 || code != impl.ErrRange {
			t.Errorf("DirBetween(%v) is %d, %d", pair, dir, code)
		}
		if dir, code := impl.DirBetween(pair[1], pair[0]); dir != 0 || code != impl.ErrRange {
			t.Errorf("DirBetween(%v), exchanged, is %d, %d", pair, dir, code)
		}
	}
}

func TestPointText(t *testing.T) {
	if got := impl.PointText(impl.Point{X: 3, Y: -2}); got != "3,-2" {
		t.Errorf("PointText is %q", got)
	}
	for _, p := range append(validPoints(), edgePoints()...) {
		text := big.NewInt(p.X).String() + "," + big.NewInt(p.Y).String()
		want, wantPoint := text, p
		if !isValidPoint(p) {
			want, wantPoint = "", impl.Point{}
		}
		if got := impl.PointText(p); got != want {
			t.Errorf("PointText(%v) is %q", p, got)
		}
		if got, ok := impl.ReadPoint(text); got != wantPoint || ok != isValidPoint(p) {
			t.Errorf("ReadPoint(%q) is %v, %t", text, got, ok)
		}
	}
}

func TestReadPointRejects(t *testing.T) {
	wrong := []string{
		"", ",", "3", "3,", ",3", "3,-2,", ",3,-2", "3,,2", "3,2,1", "3, -2", "3 ,-2", " 3,-2", "3,-2 ", "3,-2\n", "3;-2", "3.-2", "3 -2", "(3,-2)", "{3, -2}",
		"-0,0", "0,-0", "03,2", "3,02", "+3,2", "3,+2", "00,0", "61,0", "0,61", "-61,0", "0,-61", "1000000000,0", "1000000001,0", "0,-1000000001",
		"4294967296,0", "0,18446744073709551616", "a,b", "3,b", "a,3", "3\x00,2", "3,2\x00", "\u0663,2", "3\uff0c2",
	}
	for _, text := range wrong {
		if p, ok := impl.ReadPoint(text); p != (impl.Point{}) || ok {
			t.Errorf("ReadPoint(%q) is %v, %t", text, p, ok)
		}
	}
}
