package tests

import (
	"slices"
	"strings"
	"testing"

	"loop.example/g01081/impl"
)

// readShape says what ReadShape must return: the points of rows of one length that reach the borders on all sides.
func readShape(text string) ([]impl.Point, int64) {
	rows := strings.Split(text, "/")
	width := len(rows[0])
	if width < 1 || width > 61 || len(rows) > 61 || strings.Count(text, "#") > 500 {
		return nil, impl.ErrSyntax
	}
	west, east := false, false
	for _, row := range rows {
		if len(row) != width || strings.Trim(row, "#.") != "" {
			return nil, impl.ErrSyntax
		}
		west, east = west || strings.HasPrefix(row, "#"), east || strings.HasSuffix(row, "#")
	}
	north, south := strings.Contains(rows[0], "#"), strings.Contains(rows[len(rows)-1], "#")
	if !west || !east || !north || !south {
		return nil, impl.ErrSyntax
	}
	return pointsOfRows(rows), impl.OK
}

func checkRead(t *testing.T, text string) {
	t.Helper()
	want, wantCode := readShape(text)
	got, code := impl.ReadShape(text)
	short := text
	if len(short) > 300 {
		short = short[:300] + ".."
	}
	checkShape(t, "ReadShape of "+short, got, code, want, wantCode)
	if code == impl.OK && impl.ShapeText(got) != text {
		t.Fatalf("ShapeText of %v is not %s, from which it was read", got, short)
	}
}

func TestShapeText(t *testing.T) {
	for _, shape := range append(validShapes(), gridShapes(3, 4)...) {
		if got, want := impl.ShapeText(shape), textOf(shape); got != want {
			t.Fatalf("ShapeText(%v) is %s, not %s", shape, got, want)
		}
	}
	cases := []struct {
		shape []impl.Point
		text  string
	}{
		{points(0, 0, 1, 0, 0, 1), "#./##"}, {points(0, 0), "#"}, {points(60, -60), "#"}, {points(-60, 60), "#"},
		{points(-1, -1, 1, -1, 0, 0), ".#./#.#"}, {points(5, -3, 4, -2, 3, -1), "#../.#./..#"}, {points(0, 0, 0, 2), "#/./#"}, {points(7, 9, 9, 9), "#.#"},
		{points(-60, 60, 60, 60), "#" + strings.Repeat(".", 119) + "#"}, {points(3, -60, 3, 60), "#" + strings.Repeat("/.", 119) + "/#"},
	}
	for _, c := range cases {
		if got := impl.ShapeText(c.shape); got != c.text {
			t.Errorf("ShapeText(%v) is %s, not %s", c.shape, got, c.text)
		}
	}
	corners := impl.ShapeText(points(60, -60, -60, 60))
	if len(corners) != 121*121+120 || strings.Count(corners, "#") != 2 || corners[0] != '#' || corners[len(corners)-1] != '#' {
		t.Error("wrong text of two corners")
	}
}

// TestReadShapeOfText reads the texts of shapes: they come home if they fit.
func TestReadShapeOfText(t *testing.T) {
	for _, shape := range validShapes() {
		text := textOf(shape)
		low, high := limitsOf(shape)
		want, wantCode := movedBy(shape, -low.X, -low.Y), int64(impl.OK)
		if high.X-low.X > 60 || high.Y-low.Y > 60 {
			want, wantCode = nil, impl.ErrSyntax
		}
		got, code := impl.ReadShape(text)
		checkShape(t, "ReadShape of a text", got, code, want, wantCode)
		checkRead(t, text)
		home, homeCode := impl.HomeShape(shape)
		if (homeCode == impl.OK) != (code == impl.OK) || !slices.Equal(home, got) {
			t.Fatalf("HomeShape(%v) is %v, but from the text %v is read", shape, home, got)
		}
	}
}

// TestReadShortTexts reads all texts of at most eight of four bytes.
func TestReadShortTexts(t *testing.T) {
	texts := []string{""}
	for range 8 {
		for _, text := range texts {
			checkRead(t, text)
		}
		var longer []string
		for _, text := range texts {
			for _, c := range "#./x" {
				longer = append(longer, text+string(c))
			}
		}
		texts = longer
	}
	for _, text := range texts {
		checkRead(t, text)
	}
}

// TestReadChangedTexts removes, inserts and replaces a byte at each place of a text.
func TestReadChangedTexts(t *testing.T) {
	for _, known := range knownShapes() {
		for i := range len(known.text) + 1 {
			before, after := known.text[:i], known.text[i:]
			for _, c := range []string{"", "#", ".", "/", "//", "./", "/.", "#/", "\n", " ", "\x00", "\xa3", "\xff", "x", "$", "\"", "-", "0", "\\", "\u2588", "\uff03"} {
				checkRead(t, before+c+after)
				if len(after) > 0 {
					checkRead(t, before+c+after[1:])
				}
			}
		}
	}
}

func TestReadShapeRejects(t *testing.T) {
	for _, text := range []string{
		"", ".", "/", "//", "..", "./.", "#/", "/#", "#//#", "/#/", "#/#/", "##/#", "#/##", "##/##/#", "#.", ".#", "#./#.", ".#/.#", "./#", "#/.", "../##", "##/..",
		"..#/.#./#../...", "..../.#../....", "...#/..#./.#..", "#../.#./..#.", "# #", "#\n", "#/#\n", "\n#", "#/\n#", "#|#", "#,#", "# ", " #", "#x", "x", "#./.x", "#\x00", "##\r/##", "X.X", "1", "#./##/", "O", "&#35;", "\u2588", "#\u00b7#",
	} {
		if shape, code := impl.ReadShape(text); len(shape) != 0 || code != impl.ErrSyntax {
			t.Errorf("ReadShape(%q) is %v, %d", text, shape, code)
		}
		checkRead(t, text)
	}
}

// TestReadShapeLimits has texts with 60 to 62 columns and rows, 499 to 501 points, and texts much longer than any text of a shape.
func TestReadShapeLimits(t *testing.T) {
	check := func(text string, fits bool) {
		t.Helper()
		if _, code := impl.ReadShape(text); (code == impl.OK) != fits {
			t.Errorf("ReadShape of %d bytes with %d points is %s", len(text), strings.Count(text, "#"), codeText(code))
		}
		checkRead(t, text)
	}
	for n := 58; n <= 125; n++ {
		full, row := strings.Repeat("#", n), "#"+strings.Repeat(".", n-2)+"#"
		check(full, n <= 61)
		check(row, n <= 61)
		check(full[1:]+strings.Repeat("/#", n), false)
		check("#"+strings.Repeat("/#", n-1), n <= 61)
		check("#"+strings.Repeat("/.", n-2)+"/#", n <= 61)
		check(row+strings.Repeat("/"+row, n-1), n <= 61)
		check(full+strings.Repeat("/"+row, n-2)+"/"+full, n <= 61)
		check(full+"/"+row, n <= 61)
		check("##"+strings.Repeat("/#.", n-1), n <= 61)
	}
	for n := 495; n <= 505; n++ {
		check(textOf(pointsIn(rowsAssembly(impl.Point{}, 25, int64(n)))), n <= 500)
		check(textOf(pointsIn(rowsAssembly(impl.Point{}, 61, int64(n)))), n <= 500)
		check(textOf(pointsIn(chessAssembly(impl.Point{}, int64(n)))), n <= 500)
	}
	wide := "#" + strings.Repeat(".", 59) + "#"
	largest := wide + strings.Repeat("/"+strings.Repeat(".", 61), 59) + "/" + wide
	check(largest, true)
	check(largest+"/"+wide, false)
	check(largest+"/", false)
	for _, piece := range []string{"#", ".", "/", "#/", "./", "\x00", "##/"} {
		check(strings.Repeat(piece, 1000000), false)
	}
}
