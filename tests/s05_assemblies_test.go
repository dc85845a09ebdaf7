package tests

import (
	"fmt"
	"slices"
	"strings"
	"testing"

	"loop.example/g01081/impl"
)

func TestAssemblyText(t *testing.T) {
	if got := impl.AssemblyText(pairSet(), assembly(placed(0, 0, 0), placed(1, 1, 1))); got != "l 0,0\nr 1,1\n" {
		t.Errorf("AssemblyText of two tiles is %q", got)
	}
	if got := impl.AssemblyText(plainSet(), assembly(placed(60, -60, 2), placed(-60, -5, 0), placed(7, 60, 1))); got != "x 60,-60\nc -60,-5\nb 7,60\n" {
		t.Errorf("AssemblyText of three tiles is %q", got)
	}
	for _, set := range []impl.TileSet{countedSet("g", 200, 160), longestSet(), pairSet(), plainSet(), drawSet(5)} {
		for _, a := range formedAssemblies() {
			a = withinSet(set, a)
			if got := impl.AssemblyText(set, a); got != assemblyTextOf(set, a) {
				t.Fatalf("AssemblyText of %v is %q", a, got)
			}
		}
	}
}

// TestAssemblyTextInvalid has assemblies that are not valid for a set, and sets that are not valid: none has a text.
func TestAssemblyTextInvalid(t *testing.T) {
	check := func(set impl.TileSet, a impl.Assembly, why string) {
		t.Helper()
		if got := impl.AssemblyText(set, a); got != "" {
			t.Errorf("AssemblyText is %s, though: %s", shortened(got), why)
		}
		if got := impl.GridText(set, a); got != "" {
			t.Errorf("GridText is %s, though: %s", shortened(got), why)
		}
	}
	for _, faulty := range unformedAssemblies() {
		check(countedSet("g", 200, 160), faulty.assembly, faulty.why)
	}
	for _, faulty := range invalidSets() {
		check(faulty.set, assembly(placed(0, 0, 0)), faulty.why)
		check(faulty.set, impl.Assembly{}, faulty.why)
	}
	for _, count := range []int64{1, 2, 3, 159, 160} {
		set := countedSet("g", 3, int(count))
		for tile := count - 2; tile <= count+2; tile++ {
			for i := range 3 {
				a := assembly(placed(0, 0, 0), placed(1, 0, 0), placed(-1, 1, 0))
				a.Tiles[i].Tile = tile
				if tile < 0 || tile >= count {
					check(set, a, fmt.Sprintf("tile %d of %d", tile, count))
				} else if impl.AssemblyText(set, a) != assemblyTextOf(set, a) || impl.GridText(set, a) != gridTextOf(a) {
					t.Errorf("wrong text of %v", a)
				}
			}
		}
	}
	check(pairSet(), impl.Assembly{}, "no tiles")
}

// checkComesBack reads the text of an assembly, and its lines in another order and with more blanks.
func checkComesBack(t *testing.T, set impl.TileSet, a impl.Assembly, order []int) {
	t.Helper()
	text := impl.AssemblyText(set, a)
	mixed := textOfLines(inOrder(linesIn(text), order))
	for _, form := range []string{text, strings.TrimSuffix(text, "\n"), mixed, strings.ReplaceAll(mixed, " ", "   "), strings.ReplaceAll(mixed, "\n", " \n ")} {
		form = strings.TrimSuffix(form, "\n ")
		got, line, code := impl.ReadAssembly(set, form)
		if code != impl.OK || line != 0 || !equalAssemblies(got, a) || !impl.SameAssembly(got, a) || !impl.ValidAssembly(set, got) || impl.AssemblyText(set, got) != text {
			t.Fatalf("ReadAssembly(%s) is %v, %d, %s", shortened(form), got, line, codeText(code))
		}
	}
}

func TestReadAssemblyOfText(t *testing.T) {
	for _, set := range []impl.TileSet{countedSet("g", 200, 160), longestSet(), pairSet(), plainSet(), drawSet(5)} {
		for i, a := range formedAssemblies() {
			checkComesBack(t, set, withinSet(set, a), drawnOrder(uint64(i), len(a.Tiles)))
		}
	}
	for _, a := range gridAssemblies(2, 3, 2) {
		checkComesBack(t, pairSet(), a, drawnOrder(uint64(len(a.Tiles)), len(a.Tiles)))
	}
}

// TestReadAssemblyInAnyOrder reads the lines of some assemblies in all orders.
func TestReadAssemblyInAnyOrder(t *testing.T) {
	for _, a := range []impl.Assembly{
		assembly(placed(-2, -1, 0), placed(0, -1, 159), placed(-3, 0, 5), placed(1, 0, 5), placed(0, 1, 9)),
		assembly(placed(60, -60, 0), placed(-60, 0, 0), placed(0, 0, 1), placed(60, 0, 0), placed(-60, 60, 0)),
	} {
		for _, order := range permutations(5) {
			checkComesBack(t, countedSet("g", 3, 160), a, order)
		}
	}
}

func TestReadAssemblyTable(t *testing.T) {
	cases := []struct {
		text       string
		line, code int64
	}{
		{"", 0, impl.OK}, {"l 0,0", 0, impl.OK}, {"l 0,0\n", 0, impl.OK}, {"r 1,1\n l  0,0", 0, impl.OK}, {"l 60,60\nr -60,-60\nl 60,-60\nr -60,60", 0, impl.OK}, {"   l   -7,12   \n", 0, impl.OK},
		{"\n", 1, impl.ErrSyntax}, {" ", 1, impl.ErrSyntax}, {"\nl 0,0", 1, impl.ErrSyntax}, {"l 0,0\n\n", 2, impl.ErrSyntax}, {"l 0,0\n ", 2, impl.ErrSyntax}, {"l 0,0\n\nr 1,1", 2, impl.ErrSyntax}, {"l 0,0\n   \nr 1,1", 2, impl.ErrSyntax}, {"\n\n\n", 1, impl.ErrSyntax},
		{"l", 1, impl.ErrSyntax}, {"0,0", 1, impl.ErrSyntax}, {"l 0,0 r", 1, impl.ErrSyntax}, {"l 0,0 1,1", 1, impl.ErrSyntax}, {"0,0 l", 1, impl.ErrSyntax}, {"l 0, 0", 1, impl.ErrSyntax}, {"l 0 0", 1, impl.ErrSyntax}, {"l 0 ,0", 1, impl.ErrSyntax}, {"l r", 1, impl.ErrSyntax}, {"l -", 1, impl.ErrSyntax}, {"l .", 1, impl.ErrSyntax},
		{"l 0,61", 1, impl.ErrSyntax}, {"l 61,0", 1, impl.ErrSyntax}, {"l -61,0", 1, impl.ErrSyntax}, {"l 0,-61", 1, impl.ErrSyntax}, {"l 00,0", 1, impl.ErrSyntax}, {"l 0,-0", 1, impl.ErrSyntax}, {"l +1,0", 1, impl.ErrSyntax}, {"l 1,01", 1, impl.ErrSyntax}, {"l 1;1", 1, impl.ErrSyntax}, {"l (0,0)", 1, impl.ErrSyntax}, {"l 1,1,1", 1, impl.ErrSyntax}, {"l 1,", 1, impl.ErrSyntax}, {"l ,1", 1, impl.ErrSyntax}, {"l ,", 1, impl.ErrSyntax}, {"l 1.0,0", 1, impl.ErrSyntax},
		{"l\t0,0", 1, impl.ErrSyntax}, {"l 0,0\t", 1, impl.ErrSyntax}, {"l 0,0\r\nr 1,1\r\n", 1, impl.ErrSyntax}, {"l 0,0 \r\n", 1, impl.ErrSyntax}, {"\tl 0,0", 1, impl.ErrNotFound}, {"l\r 0,0", 1, impl.ErrNotFound}, {"l\u00a00,0", 1, impl.ErrSyntax}, {"\x00l 0,0", 1, impl.ErrNotFound},
		{"x 0,0", 1, impl.ErrNotFound}, {"l 0,0\nx 0,0", 2, impl.ErrNotFound}, {"L 0,0", 1, impl.ErrNotFound}, {"lr 0,0", 1, impl.ErrNotFound}, {"a 0,0", 1, impl.ErrNotFound}, {"0 0,0", 1, impl.ErrNotFound}, {"1 0,0", 1, impl.ErrNotFound}, {"- 0,0", 1, impl.ErrNotFound}, {"tile 0,0", 1, impl.ErrNotFound}, {". 0,0", 1, impl.ErrNotFound},
		{"l 0,0\nr 0,0", 2, impl.ErrClash}, {"l 0,0\nl 0,0", 2, impl.ErrClash}, {"l 0,0\nr 1,1\nl 0,0", 3, impl.ErrClash}, {"r 1,1\nl 0,0\nl 2,0\nr 0,0\nr 1,1", 4, impl.ErrClash},
		{"x 0,61", 1, impl.ErrSyntax}, {"x", 1, impl.ErrSyntax}, {"l 0,0\nx 00,0", 2, impl.ErrSyntax}, {"l 0,0\nr 0,0 0,0", 2, impl.ErrSyntax}, {"l 0,0\nr 0,0\nx", 2, impl.ErrClash}, {"l 0,0\nx 0,0\nl 0,0", 2, impl.ErrNotFound}, {"x 0,0\nl 0,0\nl 0,0", 1, impl.ErrNotFound}, {"l 0,0\nl\nl 0,0", 2, impl.ErrSyntax}, {"l 0,0\nx 1,1\nl", 2, impl.ErrNotFound},
	}
	for _, c := range cases {
		a, line, code := impl.ReadAssembly(pairSet(), c.text)
		if line != c.line || code != c.code || code != impl.OK && len(a.Tiles) != 0 {
			t.Errorf("ReadAssembly(%q) is %v, %d, %s, not %d, %s", c.text, a, line, codeText(code), c.line, codeText(c.code))
		}
		checkReadAssembly(t, pairSet(), c.text)
	}
}

// TestReadAssemblyLines reads all texts of at most four of these lines, with and without a newline at the end.
func TestReadAssemblyLines(t *testing.T) {
	lines := []string{"l 0,0", "r 0,0", "r 1,-1 ", "  l  -1,0", "x 0,0", "x 1,-1", "l 0,61", "l", "", " ", "l 0,0 0"}
	counts := map[int64]int{}
	for _, list := range sequences(lines, 4) {
		text := strings.Join(list, "\n")
		counts[checkReadAssembly(t, pairSet(), text)]++
		checkReadAssembly(t, pairSet(), text+"\n")
	}
	for _, code := range []int64{impl.OK, impl.ErrClash, impl.ErrNotFound, impl.ErrSyntax} {
		if counts[code] < 10 {
			t.Error("few texts with the code", codeText(code))
		}
	}
}

// TestReadAssemblyPoints has a tile at each point of some rows and columns, within the limits and beyond them, and points in other forms.
func TestReadAssemblyPoints(t *testing.T) {
	check := func(word string, valid bool) {
		t.Helper()
		for _, form := range []string{"l %s", "l 5,5\nr %s\n", "r -60,-60\n  r   %s  \nl 60,60"} {
			text := fmt.Sprintf(form, word)
			if code := checkReadAssembly(t, pairSet(), text); (code == impl.OK) != valid && code != impl.ErrClash {
				t.Fatalf("ReadAssembly(%q) is %s", text, codeText(code))
			}
		}
	}
	for n := int64(-70); n <= 70; n++ {
		for _, m := range []int64{-61, -60, -1, 0, 1, 60, 61} {
			valid := n >= -60 && n <= 60 && m >= -60 && m <= 60
			check(fmt.Sprintf("%d,%d", n, m), valid)
			check(fmt.Sprintf("%d,%d", m, n), valid)
		}
	}
	for _, p := range edgePoints() {
		check(fmt.Sprintf("%d,%d", p.X, p.Y), isValidPoint(p))
	}
	for _, word := range []string{"0", "-0", "00", "01", "-01", "+1", "1.", "1.0", "0x1", "1e0", "--1", "1-", "a", "", "\u0661", "1\t", "\t1", "1\r", "1\x00", "1_0", "-"} {
		_, isNumber := numberIn(word)
		check(word+",3", isNumber)
		check("3,"+word, isNumber)
		check(word+","+word, isNumber)
		check(word, false)
	}
}

// TestReadAssemblyNames has the name of each tile of a set, and words that are like a name.
func TestReadAssemblyNames(t *testing.T) {
	for _, set := range []impl.TileSet{countedSet("g", 200, 160), longestSet(), plainSet(), validSets()[5], validSets()[6]} {
		for i, x := range set.Tiles {
			got, line, code := impl.ReadAssembly(set, x.Name+" 3,-2")
			if code != impl.OK || line != 0 || !equalAssemblies(got, assembly(placed(3, -2, int64(i)))) {
				t.Errorf("of %q is read %v, %d, %s", x.Name, got, line, codeText(code))
			}
			for _, word := range []string{x.Name[:len(x.Name)-1], x.Name + "a", x.Name + "\t", strings.ToUpper(x.Name), strings.ToLower(x.Name), fmt.Sprint(i), "\xff" + x.Name, x.Name + "\x00"} {
				checkReadAssembly(t, set, word+" 3,-2")
			}
		}
		for _, g := range set.Glues {
			checkReadAssembly(t, set, g.Name+" 0,0")
		}
	}
}

// TestReadAssemblyCounts has as many lines as an assembly may have, and more, the last of which may be wrong in each way.
func TestReadAssemblyCounts(t *testing.T) {
	set := countedSet("g", 3, 160)
	for n := int64(498); n <= 503; n++ {
		for _, lines := range [][]string{
			linesIn(assemblyTextOf(set, rowsAssembly(impl.Point{X: -12, Y: -10}, 25, n))),
			linesIn(assemblyTextOf(set, chessAssembly(impl.Point{X: -20, Y: -7}, n))),
			inOrder(linesIn(assemblyTextOf(set, rowsAssembly(impl.Point{X: 10, Y: -60}, 5, n))), drawnOrder(uint64(n), int(n))),
		} {
			text := textOfLines(lines)
			want := int64(impl.OK)
			if n > 500 {
				want = impl.ErrFull
			}
			if code := checkReadAssembly(t, set, text); code != want {
				t.Errorf("of %d lines ReadAssembly is %s", n, codeText(code))
			}
			if _, line, _ := impl.ReadAssembly(set, text); want == impl.ErrFull && line != 501 {
				t.Errorf("of %d lines the first wrong one is %d", n, line)
			}
			for _, last := range []string{"g5 60,60", "g159 -60,-60", lines[0], lines[400], "x 60,60", "x " + wordsIn(lines[7])[1], "g5 60,61", "g5", "", "  ", "g5 60,60\ng5 60,60", "\n\n", "x"} {
				checkReadAssembly(t, set, text+last)
				checkReadAssembly(t, set, text+last+"\n")
			}
		}
	}
}

// TestReadAssemblyFull has one line behind 500 lines: what else is wrong with it is told first.
func TestReadAssemblyFull(t *testing.T) {
	set := countedSet("g", 3, 160)
	text := assemblyTextOf(set, rowsAssembly(impl.Point{}, 25, 500))
	for _, c := range []struct {
		last string
		code int64
	}{
		{"g0 60,60", impl.ErrFull}, {"g0 24,19", impl.ErrClash}, {"g0 0,0", impl.ErrClash}, {"none 60,60", impl.ErrNotFound}, {"none 0,0", impl.ErrNotFound}, {"none 61,0", impl.ErrSyntax}, {"g0 61,0", impl.ErrSyntax}, {"g0", impl.ErrSyntax}, {"\n", impl.ErrSyntax},
	} {
		a, line, code := impl.ReadAssembly(set, text+c.last)
		if len(a.Tiles) != 0 || line != 501 || code != c.code {
			t.Errorf("with %q behind 500 lines ReadAssembly is %v, %d, %s", c.last, a, line, codeText(code))
		}
	}
}

// TestReadAssemblyFirstFault makes one line or two lines of a large text wrong: the first one counts.
func TestReadAssemblyFirstFault(t *testing.T) {
	set := longestSet()
	whole := linesIn(assemblyTextOf(set, rowsAssembly(impl.Point{X: -60, Y: -60}, 121, 500)))
	faults := []string{"", "tile_name000", "none 0,0", "tile_name000 0,61"}
	places := []int{0, 1, 2, 120, 121, 250, 498, 499}
	for i, at := range places {
		for j, fault := range faults {
			lines := slices.Clone(whole)
			lines[at] = fault
			for _, behind := range append([]int{at}, places[i+1:]...) {
				if behind > at {
					lines[behind] = faults[(j+behind)%len(faults)]
				}
				checkReadAssembly(t, set, textOfLines(lines))
				if _, line, _ := impl.ReadAssembly(set, textOfLines(lines)); line != int64(at)+1 {
					t.Fatalf("the first wrong line is %d, not %d: %q", at+1, line, fault)
				}
			}
		}
		for _, before := range places[:i] { // the point of a line before it: the second of both is to blame
			lines := slices.Clone(whole)
			lines[at] = lines[before]
			if code := checkReadAssembly(t, set, textOfLines(lines)); code != impl.ErrClash {
				t.Fatalf("with equal lines %d and %d ReadAssembly is %s", before+1, at+1, codeText(code))
			}
			if _, line, _ := impl.ReadAssembly(set, textOfLines(lines)); line != int64(at)+1 {
				t.Fatalf("with equal lines %d and %d the wrong line is %d", before+1, at+1, line)
			}
		}
	}
}

// TestReadAssemblySizes has texts of 20000 bytes and of one more: that they are too long is told before all that is wrong with their lines.
func TestReadAssemblySizes(t *testing.T) {
	set := longestSet()
	full := assemblyTextOf(set, rowsAssembly(impl.Point{X: -60, Y: -60}, 5, 500))
	if len(full) < 9000 || len(full) > 20000 {
		t.Fatal("wrong length", len(full))
	}
	for _, c := range []struct{ before, piece, after string }{
		{full, " ", ""}, {strings.TrimSuffix(full, "\n"), " ", ""}, {"", " ", full}, {"tile_name000", " ", "0,0"}, {"", "\n", ""}, {"none 0,0", " ", ""}, {"tile_name000 0,0\n", "tile_name001 0,0\n", ""}, {"", "x", " 0,0"}, {"tile_name000 ", "0", ",0"}, {"", "\u00e9", ""}, {full, "\u00e9", ""},
	} {
		for size := 19997; size <= 20003; size++ {
			text := c.before + strings.Repeat(c.piece, size)[:size-len(c.before)-len(c.after)] + c.after
			if code := checkReadAssembly(t, set, text); (code == impl.ErrRange) != (size > 20000) {
				t.Errorf("of %d bytes, %s and so on, ReadAssembly is %s", size, shortened(c.before+c.piece), codeText(code))
			}
		}
	}
	if code := checkReadAssembly(t, set, full[:len(full)-1]+strings.Repeat(" ", 20001-len(full))); code != impl.OK {
		t.Error("a right text of 20000 bytes is not read:", codeText(code))
	}
	for _, piece := range []string{"\n", " ", "tile_name000 0,0\n", "x"} {
		if code := checkReadAssembly(t, set, strings.Repeat(piece, 1000000)); code != impl.ErrRange {
			t.Errorf("of %q, often, ReadAssembly is %s", piece, codeText(code))
		}
	}
}

// TestReadInvalidSet has sets that are not valid: this is told first, whatever the text is.
func TestReadInvalidSet(t *testing.T) {
	texts := []string{"", "\n", " ", "c 0,0", "c 0,0\nb 1,1\n", "0", "0 1\n. 2", "x", "c 0,61", "c 0,0\nc 0,0", strings.Repeat("\n", 20001), strings.Repeat(" ", 20001), strings.Repeat("c", 20000)}
	for _, faulty := range invalidSets() {
		for _, text := range texts {
			if a, line, code := impl.ReadAssembly(faulty.set, text); len(a.Tiles) != 0 || line != 0 || code != impl.ErrInvalid {
				t.Errorf("ReadAssembly(%s) is %v, %d, %s, though: %s", shortened(text), a, line, codeText(code), faulty.why)
			}
			if a, line, code := impl.ReadGrid(faulty.set, text); len(a.Tiles) != 0 || line != 0 || code != impl.ErrInvalid {
				t.Errorf("ReadGrid(%s) is %v, %d, %s, though: %s", shortened(text), a, line, codeText(code), faulty.why)
			}
		}
	}
}

// TestReadAssemblyChanged removes, inserts and replaces a piece at each place of a text.
func TestReadAssemblyChanged(t *testing.T) {
	text := "l 0,0\nr -12,3\n l  60,-60\nr 1,1\n"
	for i := range len(text) + 1 {
		before, after := text[:i], text[i:]
		for _, piece := range []string{"", " ", "\n", "\n\n", "l", "r", "0", "1", "-", ",", "\t", "\r", "\x00", "\xff", "\u00e9", "r 5,5", " 0,0 ", "\n \n"} {
			checkReadAssembly(t, pairSet(), before+piece+after)
			if len(after) > 0 {
				checkReadAssembly(t, pairSet(), before+piece+after[1:])
			}
		}
	}
}
