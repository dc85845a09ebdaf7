package tests

import (
	"fmt"
	"slices"
	"strings"
	"testing"

	"loop.example/g01081/impl"
)

func TestGridText(t *testing.T) {
	cases := []struct {
		a    impl.Assembly
		text string
	}{
		{assembly(placed(0, 0, 0), placed(1, 1, 1)), ". 1\n0 .\n"}, {impl.Assembly{}, ""}, {assembly(placed(0, 0, 0)), "0\n"}, {assembly(placed(60, -60, 159)), "159\n"}, {assembly(placed(-60, 60, 10)), "10\n"},
		{assembly(placed(2, 0, 4), placed(-1, 3, 5)), "5 . . .\n. . . .\n. . . .\n. . . 4\n"}, {assembly(placed(-3, 7, 1), placed(-1, 7, 100)), "1 . 100\n"}, {assembly(placed(5, -9, 1), placed(5, -7, 100)), "100\n.\n1\n"},
		{assembly(placed(1, 0, 2), placed(0, 1, 3)), "3 .\n. 2\n"}, {assembly(placed(0, 0, 1), placed(1, 0, 2), placed(0, 1, 3), placed(1, 1, 4)), "3 4\n1 2\n"}, {plainAssembly(), ". . . 9 8\n5 5 . . 5\n. 0 . 159 .\n"},
		{assembly(placed(-60, 0, 7), placed(60, 0, 8)), "7" + strings.Repeat(" .", 119) + " 8\n"}, {assembly(placed(0, -60, 7), placed(0, 60, 8)), "8\n" + strings.Repeat(".\n", 119) + "7\n"},
	}
	for _, c := range cases {
		if got := impl.GridText(countedSet("g", 3, 160), c.a); got != c.text {
			t.Errorf("GridText of %v is %q, not %q", c.a, got, c.text)
		}
	}
	for _, set := range []impl.TileSet{countedSet("g", 3, 160), pairSet(), plainSet(), countedSet("g", 0, 11), countedSet("g", 0, 101)} {
		for _, a := range formedAssemblies() {
			if a = withinSet(set, a); len(a.Tiles) == 0 {
				continue
			}
			if got := impl.GridText(set, a); got != gridTextOf(a) {
				t.Fatalf("GridText of %v is %q", a, got)
			}
		}
	}
	for _, a := range gridAssemblies(3, 3, 1)[1:] {
		if got := impl.GridText(pairSet(), a); got != gridTextOf(a) {
			t.Fatalf("GridText of %v is %q", a, got)
		}
	}
}

// homeOf says how an assembly with tiles is read from its rows.
func homeOf(a impl.Assembly) (impl.Assembly, int64, int64) {
	low, high := limitsOf(pointsIn(a))
	width, height := high.X-low.X+1, high.Y-low.Y+1
	switch {
	case len(gridTextOf(a)) > 20000:
		return impl.Assembly{}, 0, impl.ErrRange
	case width > 61: // already the last row is too long
		return impl.Assembly{}, height, impl.ErrSyntax
	case height > 61: // the rows are counted from the north, but the last 61 of them are right
		return impl.Assembly{}, height - 61, impl.ErrSyntax
	}
	home := copyAssembly(a)
	for i := range home.Tiles {
		home.Tiles[i].At.X -= low.X
		home.Tiles[i].At.Y -= low.Y
	}
	return home, 0, impl.OK
}

// TestReadGridOfText reads the rows of assemblies: they come home if they fit.
func TestReadGridOfText(t *testing.T) {
	set := countedSet("g", 3, 160)
	list := append(formedAssemblies(), gridAssemblies(2, 3, 2)...)
	for _, n := range []int64{59, 60, 61, 62, 119, 120} {
		list = append(list, assembly(placed(-60, 3, 1), placed(n-60, 3, 2)), assembly(placed(3, -60, 1), placed(3, n-60, 2)), assembly(placed(-60, -60, 159), placed(n-60, n-60, 0)), assembly(placed(n-60, -60, 4), placed(-60, n-60, 5)))
	}
	counts := map[int64]int{}
	for _, a := range list {
		if len(a.Tiles) == 0 {
			continue
		}
		text := impl.GridText(set, a)
		want, wantLine, wantCode := homeOf(a)
		got, line, code := impl.ReadGrid(set, text)
		if line != wantLine || code != wantCode || !equalAssemblies(got, want) {
			t.Fatalf("ReadGrid(%s) is %v, %d, %s, not %v, %d, %s", shortened(text), got, line, codeText(code), want, wantLine, codeText(wantCode))
		}
		if code == impl.OK && (!impl.ValidAssembly(set, got) || impl.GridText(set, got) != text) {
			t.Fatalf("%v is read from %s", got, shortened(text))
		}
		counts[code]++
		checkReadGrid(t, set, text)
		checkReadGrid(t, set, strings.TrimSuffix(text, "\n"))
		checkReadGrid(t, set, " "+strings.ReplaceAll(text, " ", "   "))
		checkReadGrid(t, set, strings.ReplaceAll(text, "\n", " \n  "))
	}
	for _, code := range []int64{impl.OK, impl.ErrRange, impl.ErrSyntax} {
		if counts[code] < 3 {
			t.Error("few assemblies with the code", codeText(code))
		}
	}
}

func TestReadGridTable(t *testing.T) {
	none := assembly()
	cases := []struct {
		text       string
		a          impl.Assembly
		line, code int64
	}{
		{". 1\n0 .\n", assembly(placed(0, 0, 0), placed(1, 1, 1)), 0, impl.OK}, {". 1\n0 .", assembly(placed(0, 0, 0), placed(1, 1, 1)), 0, impl.OK}, {"  .   1  \n 0 ", assembly(placed(0, 0, 0), placed(1, 1, 1)), 0, impl.OK},
		{"", none, 0, impl.OK}, {"\n", none, 0, impl.OK}, {" ", none, 0, impl.OK}, {".", none, 0, impl.OK}, {". .\n.\n", none, 0, impl.OK}, {"\n\n\n", none, 0, impl.OK}, {" \n\n  ", none, 0, impl.OK},
		{"0\n\n", assembly(placed(0, 1, 0)), 0, impl.OK}, {"0\n\n\n", assembly(placed(0, 2, 0)), 0, impl.OK}, {"0\n ", assembly(placed(0, 1, 0)), 0, impl.OK}, {"0\n", assembly(placed(0, 0, 0)), 0, impl.OK}, {"\n0", assembly(placed(0, 0, 0)), 0, impl.OK}, {"\n\n0\n", assembly(placed(0, 0, 0)), 0, impl.OK}, {"1\n\n0", assembly(placed(0, 0, 0), placed(0, 2, 1)), 0, impl.OK},
		{". 0 .\n. . .", assembly(placed(1, 1, 0)), 0, impl.OK}, {"0 1 0\n1\n. 1", assembly(placed(1, 0, 1), placed(0, 1, 1), placed(0, 2, 0), placed(1, 2, 1), placed(2, 2, 0)), 0, impl.OK},
		{"0 2\n0", none, 1, impl.ErrSyntax}, {"2\n2", none, 2, impl.ErrSyntax}, {"2\n0", none, 1, impl.ErrSyntax}, {"0\n2", none, 2, impl.ErrSyntax}, {"2\n0\n2\n0", none, 3, impl.ErrSyntax}, {"2\n\n2\n\n", none, 3, impl.ErrSyntax}, {"x\nx\nx\n0", none, 3, impl.ErrSyntax}, {"0 x\n0 0 x", none, 2, impl.ErrSyntax}, {"x\n\n\n", none, 1, impl.ErrSyntax}, {"0 1 .\n0 1 ..\n0 1", none, 2, impl.ErrSyntax},
		{"l", none, 1, impl.ErrSyntax}, {"-", none, 1, impl.ErrSyntax}, {"..", none, 1, impl.ErrSyntax}, {"00", none, 1, impl.ErrSyntax}, {"01", none, 1, impl.ErrSyntax}, {"-0", none, 1, impl.ErrSyntax}, {"-1", none, 1, impl.ErrSyntax}, {"+1", none, 1, impl.ErrSyntax}, {"1.", none, 1, impl.ErrSyntax}, {".1", none, 1, impl.ErrSyntax}, {"0,0", none, 1, impl.ErrSyntax}, {"1000000000", none, 1, impl.ErrSyntax}, {"1000000001", none, 1, impl.ErrSyntax}, {"4294967296", none, 1, impl.ErrSyntax}, {"18446744073709551616", none, 1, impl.ErrSyntax},
		{"0\t1", none, 1, impl.ErrSyntax}, {"0\t", none, 1, impl.ErrSyntax}, {"0\r\n1\r\n", none, 2, impl.ErrSyntax}, {"0 \r\n1", none, 1, impl.ErrSyntax}, {"\u00a0", none, 1, impl.ErrSyntax}, {"0\x00", none, 1, impl.ErrSyntax}, {"\u2024", none, 1, impl.ErrSyntax}, {"\t\n0", none, 1, impl.ErrSyntax},
	}
	for _, c := range cases {
		a, line, code := impl.ReadGrid(pairSet(), c.text)
		if line != c.line || code != c.code || !equalAssemblies(a, c.a) {
			t.Errorf("ReadGrid(%q) is %v, %d, %s, not %v, %d, %s", c.text, a, line, codeText(code), c.a, c.line, codeText(c.code))
		}
		checkReadGrid(t, pairSet(), c.text)
	}
}

// TestReadGridShortTexts reads all texts of at most seven of these bytes.
func TestReadGridShortTexts(t *testing.T) {
	counts := map[int64]int{}
	for _, bytes := range sequences([]string{"0", "1", "2", ".", " ", "\n"}, 7) {
		counts[checkReadGrid(t, pairSet(), strings.Join(bytes, ""))]++
	}
	if counts[impl.OK] < 1000 || counts[impl.ErrSyntax] < 1000 {
		t.Error("few texts of a kind", counts)
	}
}

// TestReadGridRows reads all texts of at most five of these rows: the last wrong one counts.
func TestReadGridRows(t *testing.T) {
	wrong := []string{"x", "0 2", ". 1 -"}
	rows := append([]string{"0 1", "", " . ", " 1   0 . 0"}, wrong...)
	for _, list := range sequences(rows, 5) {
		text := textOfLines(list)
		code := checkReadGrid(t, pairSet(), text)
		checkReadGrid(t, pairSet(), strings.Join(list, "\n"))
		last := 0
		for i, row := range list {
			if slices.Contains(wrong, row) {
				last = i + 1
			}
		}
		if _, line, _ := impl.ReadGrid(pairSet(), text); line != int64(last) || (code != impl.OK) != (last > 0) {
			t.Fatalf("ReadGrid(%q) ends at line %d, not %d, with %s", text, line, last, codeText(code))
		}
	}
}

// TestReadGridTiles has each index up to the last one of a set and some after it, and indices in other forms.
func TestReadGridTiles(t *testing.T) {
	for _, count := range []int64{1, 2, 9, 10, 11, 100, 101, 159, 160} {
		set := countedSet("g", 3, int(count))
		for n := int64(-3); n <= 170; n++ {
			for _, form := range []string{"%d", ". %d\n0", "0 0\n0 %d 0\n"} {
				code := checkReadGrid(t, set, fmt.Sprintf(form, n))
				if within := n >= 0 && n < count; (code == impl.OK) != within {
					t.Errorf("with the tile %d of %d ReadGrid is %s", n, count, codeText(code))
				}
			}
			for _, form := range []string{"0%d", "-%d", "+%d", "%d.", "%d,0", "%d0 %[1]d", ".%d", "%d\t"} {
				checkReadGrid(t, set, fmt.Sprintf(form, n))
			}
		}
	}
	for _, n := range edgeNumbers() {
		checkReadGrid(t, countedSet("g", 3, 160), fmt.Sprint(n))
		checkReadGrid(t, countedSet("g", 3, 60), fmt.Sprint("0 . ", n, "\n1"))
	}
	for _, word := range basicsTexts() {
		checkReadGrid(t, countedSet("g", 3, 160), word)
		checkReadGrid(t, countedSet("g", 3, 13), "0\n0 . "+word+" .")
	}
}

// TestReadGridLimits has rows and columns up to the last points and one more: beyond them there may be rows, but no words.
func TestReadGridLimits(t *testing.T) {
	few, many := strings.Repeat("\n", 60), strings.Repeat("\n", 61)
	for _, c := range []struct {
		text       string
		line, code int64
	}{
		{strings.Repeat("0 ", 61), 0, impl.OK}, {strings.Repeat("0 ", 62), 1, impl.ErrSyntax}, {strings.Repeat(". ", 61), 0, impl.OK}, {strings.Repeat(". ", 62), 1, impl.ErrSyntax}, {strings.Repeat(". ", 60) + "1", 0, impl.OK}, {strings.Repeat(". ", 61) + "1", 1, impl.ErrSyntax},
		{"1\n" + strings.Repeat(". ", 62) + "\n0\n", 2, impl.ErrSyntax}, {strings.Repeat(". ", 62) + "\n0\n0\n", 1, impl.ErrSyntax}, {strings.Repeat(". ", 62) + "\nx\n0", 2, impl.ErrSyntax},
		{strings.Repeat("0\n", 61), 0, impl.OK}, {strings.Repeat("0\n", 62), 1, impl.ErrSyntax}, {strings.Repeat("0\n", 63), 2, impl.ErrSyntax}, {strings.Repeat(".\n", 61), 0, impl.OK}, {strings.Repeat(".\n", 62), 1, impl.ErrSyntax}, {strings.Repeat(".\n", 70), 9, impl.ErrSyntax},
		{"0" + few + "0", 0, impl.OK}, {"0" + many + "0", 1, impl.ErrSyntax}, {"." + few + ".", 0, impl.OK}, {"." + many + ".", 1, impl.ErrSyntax}, {"." + many + "0", 1, impl.ErrSyntax}, {"0\n" + few, 0, impl.OK}, {"0\n" + many, 1, impl.ErrSyntax}, {"\n\n.\n" + many, 3, impl.ErrSyntax}, {"0\n0\n1\n" + few, 2, impl.ErrSyntax},
		{many + "0", 0, impl.OK}, {many + many + "0", 0, impl.OK}, {strings.Repeat("   \n", 100) + "0 1\n", 0, impl.OK}, {many + many, 0, impl.OK}, {" " + many + "x", 62, impl.ErrSyntax},
	} {
		if code := checkReadGrid(t, pairSet(), c.text); code != c.code {
			t.Errorf("ReadGrid(%s) is %s, not %s", shortened(c.text), codeText(code), codeText(c.code))
		}
		if _, line, _ := impl.ReadGrid(pairSet(), c.text); line != c.line {
			t.Errorf("ReadGrid(%s) ends at line %d, not %d", shortened(c.text), line, c.line)
		}
	}
	for n := 55; n <= 130; n++ {
		for _, piece := range []string{"0 ", ". ", "0\n", ".\n", "\n", " \n", "0 1\n", ". 1\n\n"} {
			checkReadGrid(t, pairSet(), strings.Repeat(piece, n))
			checkReadGrid(t, pairSet(), strings.Repeat(piece, n)+"1\n0")
			checkReadGrid(t, pairSet(), "1\n"+strings.Repeat(piece, n)+"\n. 0\n\n")
		}
	}
}

// TestReadGridCounts has as many tiles as an assembly may have, and more: the row of the first tile too many is told.
func TestReadGridCounts(t *testing.T) {
	set := countedSet("g", 3, 160)
	for n := int64(498); n <= 503; n++ {
		for _, a := range []impl.Assembly{rowsAssembly(impl.Point{}, 25, n), rowsAssembly(impl.Point{}, 61, n), rowsAssembly(impl.Point{}, 9, n), chessAssembly(impl.Point{}, n)} {
			text := gridTextOf(a)
			want, wantLine := int64(impl.OK), int64(0)
			if n > 500 {
				want, wantLine = impl.ErrFull, a.Tiles[n-1].At.Y-a.Tiles[500].At.Y+1
			}
			if code := checkReadGrid(t, set, text); code != want {
				t.Errorf("of %d tiles ReadGrid is %s", n, codeText(code))
			}
			if _, line, _ := impl.ReadGrid(set, text); line != wantLine {
				t.Errorf("of %d tiles ReadGrid ends at line %d, not %d", n, line, wantLine)
			}
			for _, row := range []string{"0", ".", "", ". . .", ". 159", "160", ". 0 x", "x 0", ". x . 0"} {
				checkReadGrid(t, set, row+"\n"+text)
				checkReadGrid(t, set, text+row)
				checkReadGrid(t, set, "x\n"+row+"\n"+text)
			}
		}
	}
	checkReadGrid(t, set, strings.Repeat(strings.Repeat("0 ", 61)+"\n", 61))
	checkReadGrid(t, set, strings.Repeat(strings.Repeat(". ", 61)+"\n", 61))
}

// TestReadGridFull has one row over rows with 500 tiles: the words before the first tile may be wrong, but not those behind it.
func TestReadGridFull(t *testing.T) {
	set := countedSet("g", 3, 160)
	text := gridTextOf(rowsAssembly(impl.Point{}, 25, 500))
	corner := strings.Repeat(". ", 61)
	for _, c := range []struct {
		row        string
		line, code int64
	}{
		{"0", 1, impl.ErrFull}, {". 0", 1, impl.ErrFull}, {". 159 x", 1, impl.ErrFull}, {"x 0", 1, impl.ErrSyntax}, {"160", 1, impl.ErrSyntax}, {". 160 0", 1, impl.ErrSyntax}, {"00", 1, impl.ErrSyntax}, {"-0", 1, impl.ErrSyntax},
		{".", 0, impl.OK}, {"", 0, impl.OK}, {corner, 0, impl.OK}, {corner + "0", 1, impl.ErrSyntax}, {corner + ".", 1, impl.ErrSyntax}, {"0 " + corner, 1, impl.ErrFull}, {"x\n0", 2, impl.ErrFull}, {"0\nx", 2, impl.ErrSyntax}, {"0\n.\n\n.", 1, impl.ErrFull},
		{"0" + strings.Repeat("\n", 41), 1, impl.ErrSyntax}, {"0" + strings.Repeat("\n", 40), 1, impl.ErrFull}, {"." + strings.Repeat("\n", 41), 1, impl.ErrSyntax},
	} {
		a, line, code := impl.ReadGrid(set, c.row+"\n"+text)
		if line != c.line || code != c.code || (len(a.Tiles) == 500) != (code == impl.OK) {
			t.Errorf("with %q over 500 tiles ReadGrid is %v, %d, %s", c.row, a, line, codeText(code))
		}
		checkReadGrid(t, set, c.row+"\n"+text)
	}
}

// TestReadGridFirstFault makes one row or two rows of a large grid wrong: the one further south counts.
func TestReadGridFirstFault(t *testing.T) {
	set := countedSet("g", 3, 160)
	whole := linesIn(gridTextOf(chessAssembly(impl.Point{}, 500)))
	faults := []string{"x", "0 160", ". . -1 0", strings.Repeat(". ", 62)}
	for at := range whole {
		for i, fault := range faults {
			rows := slices.Clone(whole)
			rows[at] = fault
			for other := range at + 1 {
				if other < at {
					rows[other] = faults[(i+other)%len(faults)]
				}
				text := textOfLines(rows)
				if code := checkReadGrid(t, set, text); code != impl.ErrSyntax {
					t.Fatalf("with %q ReadGrid is %s", fault, codeText(code))
				}
				if _, line, _ := impl.ReadGrid(set, text); line != int64(at)+1 {
					t.Fatalf("with %q in line %d and wrong lines before it ReadGrid ends at line %d", fault, at+1, line)
				}
			}
		}
	}
}

// TestReadGridSizes has texts of 20000 bytes and of one more: that they are too long is told before all that is wrong with their words.
func TestReadGridSizes(t *testing.T) {
	set := pairSet()
	text := gridTextOf(withinSet(set, rowsAssembly(impl.Point{}, 25, 500)))
	for _, c := range []struct{ before, piece, after string }{
		{text, " ", ""}, {strings.TrimSuffix(text, "\n"), " ", ""}, {"", " ", text}, {"", "\n", text}, {"", "\n", ""}, {"", " \n", ""}, {"0", " ", "1"}, {"", "0 ", ""}, {"x\n", " ", "\n0"}, {"", ".\n", ""}, {"", ". ", ""}, {"", "0", ""}, {"", "\u00e9", ""},
	} {
		for size := 19997; size <= 20003; size++ {
			text := c.before + strings.Repeat(c.piece, size)[:size-len(c.before)-len(c.after)] + c.after
			if code := checkReadGrid(t, set, text); (code == impl.ErrRange) != (size > 20000) {
				t.Errorf("of %d bytes, %s and so on, ReadGrid is %s", size, shortened(c.before+c.piece), codeText(code))
			}
		}
	}
	if code := checkReadGrid(t, set, strings.Repeat("\n", 20000-len(text))+text); code != impl.OK {
		t.Error("a right text of 20000 bytes is not read:", codeText(code))
	}
	for _, piece := range []string{"\n", " ", "0 1\n", "x", ". "} {
		if code := checkReadGrid(t, set, strings.Repeat(piece, 1000000)); code != impl.ErrRange {
			t.Errorf("of %q, often, ReadGrid is %s", piece, codeText(code))
		}
	}
}

// TestReadGridChanged removes, inserts and replaces a piece at each place of a text.
func TestReadGridChanged(t *testing.T) {
	set := countedSet("g", 3, 12)
	text := "0 . 11\n. 1\n 10  . 3 .\n7\n"
	for i := range len(text) + 1 {
		before, after := text[:i], text[i:]
		for _, piece := range []string{"", " ", "\n", "\n\n", "0", "1", "12", "-", ".", ",", "\t", "\r", "\x00", "\xff", "\u00e9", " 5 ", " x ", "\n \n"} {
			checkReadGrid(t, set, before+piece+after)
			if len(after) > 0 {
				checkReadGrid(t, set, before+piece+after[1:])
			}
		}
	}
}
