package tests

import (
	"fmt"
	"slices"
	"testing"

	"loop.example/g01081/impl"
)

// roomyShape returns an equal shape with unused capacity, filled with points.
func roomyShape(shape []impl.Point) []impl.Point {
	list := append(slices.Clone(shape), points(60, 60, -60, 60, 99, 99, 0, 0)...)
	return list[:len(shape)]
}

// watchPoints returns a function that reports whether the shapes are as they were, also in their unused capacity.
func watchPoints(shapes ...[]impl.Point) func() bool {
	var now, before [][]impl.Point
	for _, shape := range shapes {
		whole := shape[:cap(shape)]
		now, before = append(now, whole), append(before, slices.Clone(whole))
	}
	return func() bool { return slices.EqualFunc(now, before, slices.Equal) }
}

// argumentShapes are shapes and lists of points that are none, with and without unused capacity, also such that share memory.
func argumentShapes() [][]impl.Point {
	list := [][]impl.Point{nil, {}, points(0, 0, 1, 0, 0, 1), roomyShape(nil)}
	for i, shape := range validShapes() {
		if i%5 == 0 || len(shape) > 400 {
			list = append(list, roomyShape(shape))
		} else if i%3 == 0 {
			list = append(list, slices.Clip(shape))
		}
	}
	for i, faulty := range invalidShapes() {
		if i%60 == 0 || len(faulty.points) == 501 {
			list = append(list, roomyShape(faulty.points))
		}
	}
	for _, k := range []int64{2, 3, 4} {
		scaled, _ := scaledShape(shapeOf(".##/##./.#."), k)
		list = append(list, roomyShape(scaled))
	}
	// The first ones have the others in their unused capacity.
	whole := roomyShape(shapeOf("#.###/#.#.#/#.###/###.#"))
	return append(list, whole[:3], whole[:7], whole[3:], whole[2:9])
}

// shapeNumbers are symmetries, factors and sides, right and wrong ones.
func shapeNumbers() []int64 { return []int64{0, 1, 2, 3, 4, 5, 6, 7, 8, 22, 60, 61, -1, -1 << 63} }

// shapeCalls are calls of every function of chapter 4 with ordinary and extreme arguments; each returns a text of its results.
func shapeCalls(list [][]impl.Point) []func() string {
	var calls []func() string
	add := func(call func() string) { calls = append(calls, call) }
	for i, a := range list {
		add(func() string { return fmt.Sprint(impl.ValidShape(a)) })
		add(func() string { return impl.ShapeText(a) })
		add(func() string { return fmt.Sprint(impl.HomeShape(a)) })
		add(func() string { return fmt.Sprint(impl.SymmetriesOf(a)) })
		add(func() string { return fmt.Sprint(impl.IsConnected(a)) })
		add(func() string { return fmt.Sprint(impl.HolesOf(a)) })
		add(func() string { return fmt.Sprint(impl.PerimeterOf(a)) })
		for _, n := range shapeNumbers() {
			add(func() string { return fmt.Sprint(impl.TurnShape(a, n)) })
			add(func() string { return fmt.Sprint(impl.ScaleShape(a, n)) })
			add(func() string { return fmt.Sprint(impl.UnscaleShape(a, n)) })
		}
		for _, j := range []int{i, (i + 1) % len(list), (i*7 + 3) % len(list), len(list) - 1 - i} {
			b := list[j]
			add(func() string { return fmt.Sprint(impl.SameShape(a, b)) })
		}
	}
	for _, text := range append(basicsTexts(), "", "#", "#/", ".#/##", "#.#/.#./#.#", "..#/###", "###/#.#/###\n") {
		add(func() string { return fmt.Sprint(impl.ReadShape(text)) })
	}
	for _, width := range shapeNumbers() {
		for _, height := range shapeNumbers() {
			add(func() string { return fmt.Sprint(impl.RectangleShape(width, height)) })
		}
	}
	return calls
}

// TestShapesPure makes all calls again, also with equal shapes in other memory.
func TestShapesPure(t *testing.T) {
	list := argumentShapes()
	var copies [][]impl.Point
	for _, shape := range list {
		copies = append(copies, slices.Clone(shape))
	}
	checkPure(t, shapeCalls(list), shapeCalls(copies), shapeCalls(argumentShapes()))
}

// TestShapesUnchanged checks after each call that no shape has changed, not even in its unused capacity.
func TestShapesUnchanged(t *testing.T) {
	list := argumentShapes()
	for i, shape := range list {
		few := [][]impl.Point{shape, list[(i+1)%len(list)]}
		kept := watchPoints(few...)
		for j, call := range shapeCalls(few) {
			call()
			if !kept() {
				t.Fatalf("call %d changed one of %v", j, few)
			}
		}
	}
}

// shapeSlices are calls of each function with slices in its results, for a shape; each returns these slices and a text of all.
func shapeSlices(shape []impl.Point) []func() ([]piece, string) {
	var calls []func() ([]piece, string)
	add := func(call func() ([]impl.Point, int64)) {
		calls = append(calls, func() ([]piece, string) {
			list, code := call()
			return []piece{pieceOf(list, impl.Point{X: 7, Y: 77})}, fmt.Sprint(list, code)
		})
	}
	add(func() ([]impl.Point, int64) { return impl.HomeShape(shape) })
	for n := range int64(8) {
		add(func() ([]impl.Point, int64) { return impl.TurnShape(shape, n) })
		add(func() ([]impl.Point, int64) { return impl.ScaleShape(shape, n) })
		add(func() ([]impl.Point, int64) { return impl.UnscaleShape(shape, n) })
		add(func() ([]impl.Point, int64) { return impl.RectangleShape(n, 4) })
	}
	text := impl.ShapeText(shape)
	add(func() ([]impl.Point, int64) { return impl.ReadShape(text) })
	return append(calls,
		func() ([]piece, string) {
			list, code := impl.SymmetriesOf(shape)
			return []piece{pieceOf(list, 77)}, fmt.Sprint(list, code)
		},
		func() ([]piece, string) {
			holes, code := impl.HolesOf(shape)
			return holePieces(holes), fmt.Sprint(holes, code)
		})
}

// holePieces are all slices of a result of HolesOf: the list of holes, and the points of each.
func holePieces(holes [][]impl.Point) []piece {
	list := pieceOf(holes, points(7, 77))
	list.show = func() string { // without the points, which are pieces of their own
		var sizes []int
		for _, hole := range holes {
			sizes = append(sizes, len(hole))
		}
		return fmt.Sprint(sizes)
	}
	pieces := []piece{list}
	for _, hole := range holes {
		pieces = append(pieces, pieceOf(hole, impl.Point{X: 7, Y: 77}))
	}
	return pieces
}

// TestShapesShareNoMemory writes over each slice of a result, with its unused capacity: no argument and no other slice or hole may change, and the call must return the same again.
func TestShapesShareNoMemory(t *testing.T) {
	most := 0
	for _, shape := range append(argumentShapes(), shapeOf("#######/#.#.#.#/#######/#.#...#/#######")) {
		for j, call := range shapeSlices(shape) {
			pieces, want := call()
			most = max(most, len(pieces))
			what := fmt.Sprintf("call %d with %v", j, shape)
			checkPieces(t, what, pieces, watchPoints(shape))
			for _, p := range pieces {
				p.write()
			}
			if _, got := call(); got != want {
				t.Fatalf("%s returned %s and then %s", what, want, got)
			}
		}
	}
	if most < 6 {
		t.Error("no result has more slices than", most)
	}
}
