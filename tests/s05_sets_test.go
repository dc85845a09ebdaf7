package tests

import (
	"fmt"
	"slices"
	"strings"
	"testing"

	"loop.example/g01081/impl"
)

func TestSetText(t *testing.T) {
	if got := impl.SetText(pairSet()); got != "glue a 2\ntile l - a - -\ntile r - - - a\n" {
		t.Errorf("SetText of the example is %q", got)
	}
	if got := impl.SetText(plainSet()); got != "glue a 1\nglue b 2\nglue c 3\ntile c a b c -\ntile b c c a b\ntile x - - - a\n" {
		t.Errorf("SetText of the plain set is %q", got)
	}
	if got := impl.SetText(countedSet("g", 0, 1)); got != "tile g0 - - - -\n" {
		t.Errorf("SetText of a set without glues is %q", got)
	}
	for _, set := range append(validSets(), longestSet()) {
		if got := impl.SetText(set); got != setTextOf(set) {
			t.Fatalf("SetText(%v) is %q", set, got)
		}
	}
	for _, faulty := range invalidSets() {
		if got := impl.SetText(faulty.set); got != "" {
			t.Errorf("SetText is %s, though: %s", shortened(got), faulty.why)
		}
	}
}

// TestReadSetOfText reads the texts of sets: the sets come back, and have the same texts again.
func TestReadSetOfText(t *testing.T) {
	for _, set := range append(validSets(), longestSet()) {
		text := impl.SetText(set)
		short := strings.TrimSuffix(text, "\n")
		for _, form := range []string{text, short, strings.ReplaceAll(text, " ", "   "), " " + strings.ReplaceAll(short, "\n", "  \n ") + " "} {
			if checkReadSet(t, form); len(form) > 20000 { // only with more blanks
				continue
			}
			if got, line, code := impl.ReadSet(form); code != impl.OK || line != 0 || !equalSets(got, set) || !impl.SameSet(got, set) || !impl.ValidSet(got) || impl.SetText(got) != text {
				t.Fatalf("ReadSet(%s) is %v, %d, %s", shortened(form), got, line, codeText(code))
			}
		}
	}
}

// TestReadNewSets reads the texts of sets that are turned, mirrored, merged and trimmed.
func TestReadNewSets(t *testing.T) {
	for n := range uint64(40) {
		turned, _ := impl.RotateSet(drawSet(n), int64(n%4))
		mirrored, _ := impl.MirrorSet(drawSet(n))
		merged, code := impl.MergeSets(turned, countedSet("h", 5, 6))
		trimmed, _, _ := impl.TrimSet(merged)
		if code != impl.OK {
			t.Fatal("MergeSets is", codeText(code))
		}
		for _, set := range []impl.TileSet{turned, mirrored, merged, trimmed} {
			if got, line, code := impl.ReadSet(impl.SetText(set)); code != impl.OK || line != 0 || !equalSets(got, set) {
				t.Fatalf("from the text of %v is read %v, %d, %s", set, got, line, codeText(code))
			}
		}
	}
}

func TestReadSetTable(t *testing.T) {
	right := "glue a 2\ntile l - a - -\n"
	cases := []struct {
		text       string
		line, code int64
	}{
		{right, 0, impl.OK}, {"glue a 2\ntile l - a - -", 0, impl.OK}, {"tile l - - - -", 0, impl.OK}, {"  glue   a 2  \n tile  l -  a - -   ", 0, impl.OK},
		{"glue glue 1\ntile tile glue - - glue", 0, impl.OK}, {"glue tile 4\nglue glue 3\ntile glue glue tile - tile", 0, impl.OK},
		{"", 0, impl.ErrInvalid}, {"glue a 2", 0, impl.ErrInvalid}, {"glue a 2\n", 0, impl.ErrInvalid}, {"glue a 9\ntile l - - - -", 0, impl.ErrInvalid},
		{"\n", 1, impl.ErrSyntax}, {" ", 1, impl.ErrSyntax}, {"\n" + right, 1, impl.ErrSyntax}, {right + "\n", 3, impl.ErrSyntax}, {right + " ", 3, impl.ErrSyntax}, {right + "   \n\n", 3, impl.ErrSyntax}, {"glue a 2\n\ntile l - a - -\n", 2, impl.ErrSyntax}, {"glue a 2\n  \ntile l a - - -", 2, impl.ErrSyntax},
		{"glue", 1, impl.ErrSyntax}, {"glue a", 1, impl.ErrSyntax}, {"glue a 2 2", 1, impl.ErrSyntax}, {"glue a 2 -", 1, impl.ErrSyntax}, {"glue 2 a", 1, impl.ErrSyntax}, {"glue a two", 1, impl.ErrSyntax}, {"glue a -", 1, impl.ErrSyntax},
		{"tile", 1, impl.ErrSyntax}, {"tile l", 1, impl.ErrSyntax}, {"tile l - - -", 1, impl.ErrSyntax}, {"tile l - - - - -", 1, impl.ErrSyntax}, {"tile l b b b", 1, impl.ErrSyntax}, {"tile l b b b b b", 1, impl.ErrSyntax},
		{"Glue a 2", 1, impl.ErrSyntax}, {"glues a 2", 1, impl.ErrSyntax}, {"glu a 2", 1, impl.ErrSyntax}, {"tiles l - - - -", 1, impl.ErrSyntax}, {"a glue 2", 1, impl.ErrSyntax}, {"- - - - - -", 1, impl.ErrSyntax}, {"TILE l - - - -", 1, impl.ErrSyntax}, {"# tile", 1, impl.ErrSyntax},
		{"glue\ta 2", 1, impl.ErrSyntax}, {"glue a\t2", 1, impl.ErrSyntax}, {"glue a 2\t", 1, impl.ErrSyntax}, {"\tglue a 2", 1, impl.ErrSyntax}, {"glue a 2\r\ntile l - a - -\r\n", 1, impl.ErrSyntax}, {"glue a 2\ntile l - a - -\r\n", 2, impl.ErrNotFound}, {"glue a 2\ntile l - a - - \r\n", 2, impl.ErrSyntax}, {"glue a\u00a0b 2\ntile l - - - -", 0, impl.ErrInvalid}, {"glue a\tb 2\ntile l a\tb - - -", 0, impl.ErrInvalid},
		{"tile l - - - -\nglue a 2", 2, impl.ErrSyntax}, {"glue a 2\ntile l - a - -\nglue b 2", 3, impl.ErrSyntax}, {"tile l - - - -\nglue", 2, impl.ErrSyntax}, {"tile l - - - -\nglue a two\ntile r b - - -", 2, impl.ErrSyntax},
		{"glue a 2\ntile l b - - -", 2, impl.ErrNotFound}, {"tile l a - - -\nglue a 2", 1, impl.ErrNotFound}, {"tile l a a a a", 1, impl.ErrNotFound}, {"glue a 2\ntile l - - - A", 2, impl.ErrNotFound}, {"glue a 2\ntile l - - 2 -", 2, impl.ErrNotFound}, {"glue a 2\ntile l - - 1 -", 2, impl.ErrNotFound}, {"glue a 2\ntile l - 0 - -", 2, impl.ErrNotFound}, {"glue a 2\ntile l - -- - -", 2, impl.ErrNotFound}, {"glue a 2\ntile l - . - -", 2, impl.ErrNotFound}, {"glue a 2\ntile l - l - -", 2, impl.ErrNotFound}, {"glue ab 2\ntile l - a - -", 2, impl.ErrNotFound}, {"glue a 2\ntile l - ab - -", 2, impl.ErrNotFound},
		{"glue a 2\ntile l b - - -\ntile", 2, impl.ErrNotFound}, {"tile\nglue a 2\ntile l b - - -", 1, impl.ErrSyntax}, {"glue a 2\ntile l a - - -\ntile r a b - -\ntile s b", 3, impl.ErrNotFound}, {"glue a 2\ntile l b - -", 2, impl.ErrSyntax},
		{"glue - 2\ntile l - - - -", 0, impl.ErrInvalid}, {"glue - 2\nglue b 1\ntile l - b - -", 0, impl.ErrInvalid}, {"glue 7 2\ntile l 7 - - -", 0, impl.ErrInvalid}, {"glue _a 2\ntile l _a _a - -", 0, impl.ErrInvalid}, {"glue a 2\nglue a 2\ntile l a - - -", 0, impl.ErrInvalid}, {"glue a 2\nglue a 3\ntile l - - - -\ntile r a b - -", 4, impl.ErrNotFound}, {"glue a 2\ntile l a - - -\ntile l - - - -", 0, impl.ErrInvalid}, {"glue a 2\ntile - a - - -", 0, impl.ErrInvalid}, {"glue a 2\ntile 0 a - - -", 0, impl.ErrInvalid},
	}
	for _, c := range cases {
		set, line, code := impl.ReadSet(c.text)
		if line != c.line || code != c.code || (code != impl.OK) != isZeroSet(set) {
			t.Errorf("ReadSet(%q) is %v, %d, %s, not %d, %s", c.text, set, line, codeText(code), c.line, codeText(c.code))
		}
		checkReadSet(t, c.text)
	}
}

// TestReadSetLines reads all texts of at most four of these lines, with and without a newline at the end.
func TestReadSetLines(t *testing.T) {
	lines := []string{"glue a 2", "glue b 5", " glue  c  1 ", "glue a x", "tile l - a - -", "tile r - - - -", "tile s b - c -", "tile t -", "", "  ", "x a 2"}
	counts := map[int64]int{}
	for _, list := range sequences(lines, 4) {
		text := strings.Join(list, "\n")
		counts[checkReadSet(t, text)]++
		checkReadSet(t, text+"\n")
	}
	for _, code := range []int64{impl.OK, impl.ErrInvalid, impl.ErrNotFound, impl.ErrSyntax} {
		if counts[code] < 20 {
			t.Error("few texts with the code", codeText(code))
		}
	}
}

// TestReadSetWords reads all lines of at most seven of these words, as the first line and behind a glue.
func TestReadSetWords(t *testing.T) {
	counts := map[int64]int{}
	for _, words := range sequences([]string{"glue", "tile", "-", "a", "2"}, 7) {
		line := strings.Join(words, " ")
		counts[checkReadSet(t, line)]++
		counts[checkReadSet(t, "glue a 1\n"+line+"\ntile x a a - -")]++
	}
	for _, code := range []int64{impl.OK, impl.ErrInvalid, impl.ErrNotFound, impl.ErrSyntax} {
		if counts[code] < 4 {
			t.Error("few lines with the code", codeText(code))
		}
	}
}

// TestReadSetSides has each word on each side of a tile, right and wrong ones, and two wrong ones.
func TestReadSetSides(t *testing.T) {
	words := []string{"-", "a", "b", "c", "aa", "A", "l", "glue", "tile", "0", "1", "2", "--", "a-", "-a", ".", "a\t", "\x00", "a\u00a0", "noglue"}
	for dir := range 4 {
		for _, word := range words {
			for _, other := range words {
				sides := []string{"-", "a", "b", "-"}
				sides[dir], sides[(dir+1)%4] = word, other
				known := (word == "-" || word == "a" || word == "b") && (other == "-" || other == "a" || other == "b")
				if code := checkReadSet(t, "glue a 1\nglue b 3\ntile l "+strings.Join(sides, " ")); (code == impl.OK) != known {
					t.Fatalf("with the sides %q ReadSet is %s", sides, codeText(code))
				}
			}
		}
	}
}

// TestReadSetStrengths has strengths in each form: those that are numbers, but too small or too great, are found only at the end.
func TestReadSetStrengths(t *testing.T) {
	for _, n := range append(edgeNumbers(), 5, 6, 7, 8) {
		word := fmt.Sprint(n)
		want := int64(impl.ErrSyntax)
		if n >= 1 && n <= 4 {
			want = impl.OK
		} else if n >= -1000000000 && n <= 1000000000 {
			want = impl.ErrInvalid
		}
		for _, form := range []string{"glue a %s\ntile l - a - -", "glue b 1\nglue a %s\ntile l b a - -", "glue a %s\nglue b 1\ntile l - - - -\n"} {
			if code := checkReadSet(t, fmt.Sprintf(form, word)); code != want {
				t.Errorf("with the strength %s ReadSet is %s", word, codeText(code))
			}
		}
		checkReadSet(t, "glue a "+word+"\ntile l - b - -")
		checkReadSet(t, "glue a "+word+"\ntile l a b - -\n")
	}
	for _, word := range append(basicsTexts(), "02", "+2", "2.", "2.0", "0x2", "2e0", "two", "-2", "-02", "--2", "2-", "1_0", "\u0662", "2,0", "00", "-00", "2\x00", "\t2", "2\n", "2\r", "'2'", "2222222222222222222222", "-1000000001") {
		_, isNumber := numberIn(word)
		code := checkReadSet(t, "glue a "+word+"\ntile l - a - -")
		if !isNumber && len(word) < 10000 && (code == impl.OK || code == impl.ErrInvalid) {
			t.Errorf("with the strength %q ReadSet is %s", word, codeText(code))
		}
	}
}

// TestReadSetFaults has lines that are all right, but no valid set: also behind a wrong name or strength the lines are read.
func TestReadSetFaults(t *testing.T) {
	for _, faulty := range invalidSets() {
		text := setTextOf(faulty.set)
		checkReadSet(t, text)
		checkReadSet(t, text+"tile last - - - -\n")
		checkReadSet(t, text+"tile last - - -\n")
	}
	for _, name := range append(wrongNames(), "-", "2", "0,0", ".", "glue-", "abcdefghijklm") {
		if name == "" || strings.ContainsAny(name, " \n") {
			continue
		}
		for _, form := range []string{"glue %s 2\ntile l - - - -", "glue a 2\nglue %s 1\ntile l a - - a", "glue %[1]s 2\ntile l - %[1]s - -", "glue a 1\ntile %s a a a a", "glue a 1\ntile l - - - -\ntile %s - - - -\ntile r - - - -"} {
			if code := checkReadSet(t, fmt.Sprintf(form, name)); code != impl.ErrInvalid {
				t.Errorf("with the name %q ReadSet is %s", name, codeText(code))
			}
			if code := checkReadSet(t, fmt.Sprintf(form, name)+"\ntile"); code != impl.ErrSyntax {
				t.Errorf("with the name %q and a wrong line ReadSet is %s", name, codeText(code))
			}
			if code := checkReadSet(t, fmt.Sprintf(form, name)+"\ntile last - - - unknown"); code != impl.ErrNotFound {
				t.Errorf("with the name %q and an unknown glue ReadSet is %s", name, codeText(code))
			}
		}
	}
}

// TestReadSetCounts has as many glues and tiles as a set may have, and one more, also with wrong lines behind them.
func TestReadSetCounts(t *testing.T) {
	for _, glues := range []int{0, 1, 199, 200, 201, 256, 400} {
		for _, tiles := range []int{0, 1, 159, 160, 161, 256, 320} {
			text := setTextOf(countedSet("g", glues, tiles))
			want := int64(impl.ErrInvalid)
			if glues <= 200 && tiles >= 1 && tiles <= 160 {
				want = impl.OK
			}
			if code := checkReadSet(t, text); code != want {
				t.Errorf("with %d glues and %d tiles ReadSet is %s", glues, tiles, codeText(code))
			}
			for _, last := range []string{"x", "glue", "tile last - - -", "tile last none - - -", "glue last 1"} {
				checkReadSet(t, text+last)
			}
		}
	}
}

// TestReadSetFirstFault makes one line or two lines of a large text wrong: the first one counts, in whatever way.
func TestReadSetFirstFault(t *testing.T) {
	whole := linesIn(setTextOf(longestSet()))
	check := func(lines []string, at int) {
		t.Helper()
		text := textOfLines(lines)
		checkReadSet(t, text)
		if _, line, _ := impl.ReadSet(text); line != int64(at)+1 {
			t.Fatalf("the first wrong line is %d, not %d: %q", at+1, line, lines[at])
		}
	}
	places := []int{0, 1, 100, 199, 200, 201, 358, 359}
	for i, at := range places {
		for _, fault := range []string{"", "tile", "glue a", "tile x none - - -", "x"} {
			lines := slices.Clone(whole)
			lines[at] = fault
			check(lines, at)
			for _, behind := range places[i+1:] {
				lines[behind] = []string{"", "tile x none - - -"}[behind%2]
				check(lines, at)
			}
		}
		// A tile among the glues is right, but the next glue is not.
		lines := slices.Clone(whole)
		lines[at] = "tile x - - - -"
		if checkReadSet(t, textOfLines(lines)); at < 199 {
			check(lines, at+1)
		}
	}
}

// TestReadSetSizes has texts of 20000 bytes and of one more: that they are too long is told before all that is wrong with their lines.
func TestReadSetSizes(t *testing.T) {
	text := "glue a 2\ntile l - a - -\n"
	fill := func(before, piece, after string, size int) string {
		return before + strings.Repeat(piece, size)[:size-len(before)-len(after)] + after
	}
	for _, c := range []struct{ before, piece, after string }{
		{text, " ", ""}, {"", " ", text}, {"glue a ", " ", " 2\ntile l - a - -"}, {"glue a 2\ntile l - a - -", " ", ""}, {"glue a 2\ntile ", "b", " - - - -"}, {"glue ", "b", " 2\ntile l - - - -"},
		{"", "\n", ""}, {text, "\n", ""}, {"x", "\u00e9", ""}, {"glue a 2 ", "x", "\n"}, {"", "glue a 2\n", ""}, {"glue a 2\n", "tile l a - - -\n", ""}, {"", "tile ", ""}, {"glue a ", "2", ""}, {"", "\x00", ""},
	} {
		for size := 19997; size <= 20003; size++ {
			code := checkReadSet(t, fill(c.before, c.piece, c.after, size))
			if (code == impl.ErrRange) != (size > 20000) {
				t.Errorf("of %d bytes, %q and so on, ReadSet is %s", size, c.before+c.piece, codeText(code))
			}
		}
	}
	if code := checkReadSet(t, fill("glue a 2\ntile l - a - -", " ", "", 20000)); code != impl.OK {
		t.Error("a right text of 20000 bytes is not read:", codeText(code))
	}
	// Bytes are counted, and not characters.
	if code := checkReadSet(t, strings.Repeat("\u00e9", 10000)); code != impl.ErrSyntax {
		t.Error("of 20000 bytes ReadSet is", codeText(code))
	}
	if code := checkReadSet(t, strings.Repeat("\u00e9", 10000)+"x"); code != impl.ErrRange {
		t.Error("of 20001 bytes ReadSet is", codeText(code))
	}
	for _, piece := range []string{"\n", " ", "tile l - - - -\n", "glue a 2\n", "x"} {
		if code := checkReadSet(t, strings.Repeat(piece, 1000000)); code != impl.ErrRange {
			t.Errorf("of %q, often, ReadSet is %s", piece, codeText(code))
		}
	}
}

// TestReadSetChanged removes, inserts and replaces a piece at each place of a text.
func TestReadSetChanged(t *testing.T) {
	text := "glue a 2\nglue bc 4\ntile l - a bc -\ntile r a - - a\n"
	for i := range len(text) + 1 {
		before, after := text[:i], text[i:]
		for _, piece := range []string{"", " ", "\n", "\n\n", "a", "-", "2", "\t", "\r", "\x00", "\xff", "\u00e9", "glue ", "tile", "bc ", " - ", "\n \n"} {
			checkReadSet(t, before+piece+after)
			if len(after) > 0 {
				checkReadSet(t, before+piece+after[1:])
			}
		}
	}
}
