package tests

import (
	"fmt"
	"regexp"
	"slices"
	"strconv"
	"strings"
	"testing"

	"loop.example/g01081/impl"
)

// The forms of names, numbers and points, and of right lines of sets and assemblies.
var (
	nameForm   = regexp.MustCompile(`^[A-Za-z][A-Za-z0-9_]{0,11}$`)
	numberForm = regexp.MustCompile(`^(0|-?[1-9][0-9]*)$`)
	pointForm  = regexp.MustCompile(`^(0|-?[1-9][0-9]*),(0|-?[1-9][0-9]*)$`)
	glueForm   = regexp.MustCompile(`^ *glue +([^ ]+) +([^ ]+) *$`)
	tileForm   = regexp.MustCompile(`^ *tile +([^ ]+) +([^ ]+) +([^ ]+) +([^ ]+) +([^ ]+) *$`)
	placedForm = regexp.MustCompile(`^ *([^ ]+) +([^ ]+) *$`)
)

// linesIn says what the lines of a text are.
func linesIn(text string) []string {
	var lines []string
	for rest := text; rest != ""; {
		line, after, _ := strings.Cut(rest, "\n")
		lines, rest = append(lines, line), after
	}
	return lines
}

// wordsIn says what the words of a line are.
func wordsIn(line string) []string {
	var words []string
	for _, word := range strings.Split(line, " ") {
		if word != "" {
			words = append(words, word)
		}
	}
	return words
}

// numberIn says which number a word is.
func numberIn(word string) (int64, bool) {
	n, err := strconv.ParseInt(word, 10, 64)
	return n, err == nil && numberForm.MatchString(word) && n >= -1000000000 && n <= 1000000000
}

// pointIn says which valid point a word is.
func pointIn(word string) (impl.Point, bool) {
	if !pointForm.MatchString(word) {
		return impl.Point{}, false
	}
	left, right, _ := strings.Cut(word, ",")
	x, okX := numberIn(left)
	y, okY := numberIn(right)
	p := impl.Point{X: x, Y: y}
	return p, okX && okY && isValidPoint(p)
}

// textOfLines has these lines, each with a newline at its end.
func textOfLines(lines []string) string {
	text := ""
	for _, line := range lines {
		text += line + "\n"
	}
	return text
}

// shortened is the begin of a text, for messages.
func shortened(text string) string {
	if len(text) > 300 {
		return fmt.Sprintf("%q.. (%d bytes)", text[:300], len(text))
	}
	return fmt.Sprintf("%q", text)
}

// sequences are all lists of at most so many items.
func sequences(items []string, most int) [][]string {
	list, longest := [][]string{{}}, [][]string{{}}
	for range most {
		var longer [][]string
		for _, before := range longest {
			for _, item := range items {
				longer = append(longer, append(slices.Clone(before), item))
			}
		}
		list, longest = append(list, longer...), longer
	}
	return list
}

// isSet says whether a set is valid.
func isSet(set impl.TileSet) bool {
	if len(set.Glues) > 200 || len(set.Tiles) > 160 || len(set.Tiles) == 0 {
		return false
	}
	glues, tiles := map[string]bool{}, map[string]bool{}
	for _, g := range set.Glues {
		if !nameForm.MatchString(g.Name) || glues[g.Name] || g.Strength < 1 || g.Strength > 4 {
			return false
		}
		glues[g.Name] = true
	}
	for _, x := range set.Tiles {
		if !nameForm.MatchString(x.Name) || tiles[x.Name] || len(x.Sides) != 4 || slices.Min(x.Sides) < 0 || slices.Max(x.Sides) > int64(len(set.Glues)) {
			return false
		}
		tiles[x.Name] = true
	}
	return true
}

// setTextOf says what the text of a set is, also for most sets that are not valid.
func setTextOf(set impl.TileSet) string {
	var text strings.Builder
	for _, g := range set.Glues {
		fmt.Fprintf(&text, "glue %s %d\n", g.Name, g.Strength)
	}
	for _, x := range set.Tiles {
		fmt.Fprintf(&text, "tile %s", x.Name)
		for _, k := range x.Sides {
			name := "-"
			if k < 0 || k > int64(len(set.Glues)) {
				name = fmt.Sprint("unknown", k)
			} else if k > 0 {
				name = set.Glues[k-1].Name
			}
			text.WriteString(" " + name)
		}
		text.WriteString("\n")
	}
	return text.String()
}

// readSet says what ReadSet must return.
func readSet(text string) (impl.TileSet, int64, int64) {
	if len(text) > 20000 {
		return impl.TileSet{}, 0, impl.ErrRange
	}
	var set impl.TileSet
	for i, line := range linesIn(text) {
		glueParts, tileParts := glueForm.FindStringSubmatch(line), tileForm.FindStringSubmatch(line)
		switch {
		case glueParts != nil:
			strength, ok := numberIn(glueParts[2])
			if !ok || len(set.Tiles) > 0 {
				return impl.TileSet{}, int64(i + 1), impl.ErrSyntax
			}
			set.Glues = append(set.Glues, glue(glueParts[1], strength))
		case tileParts != nil:
			var sides []int64
			for _, name := range tileParts[2:] {
				if name != "-" && !slices.ContainsFunc(set.Glues, func(g impl.Glue) bool { return g.Name == name }) {
					return impl.TileSet{}, int64(i + 1), impl.ErrNotFound
				}
				if name == "-" {
					sides = append(sides, 0)
				} else {
					sides = append(sides, glueOf(set, name))
				}
			}
			set.Tiles = append(set.Tiles, tile(tileParts[1], sides...))
		default:
			return impl.TileSet{}, int64(i + 1), impl.ErrSyntax
		}
	}
	if !isSet(set) {
		return impl.TileSet{}, 0, impl.ErrInvalid
	}
	return set, 0, impl.OK
}

// checkReadSet reads a text and compares all results with what they must be. It returns the code.
func checkReadSet(t *testing.T, text string) int64 {
	t.Helper()
	want, wantLine, wantCode := readSet(text)
	got, line, code := impl.ReadSet(text)
	if line != wantLine || code != wantCode || !equalSets(got, want) {
		t.Fatalf("ReadSet(%s) is %v, %d, %s, not %v, %d, %s", shortened(text), got, line, codeText(code), want, wantLine, codeText(wantCode))
	}
	return code
}

// assemblyTextOf says what the text of a valid assembly is.
func assemblyTextOf(set impl.TileSet, a impl.Assembly) string {
	var text strings.Builder
	for _, x := range a.Tiles {
		fmt.Fprintf(&text, "%s %d,%d\n", set.Tiles[x.Tile].Name, x.At.X, x.At.Y)
	}
	return text.String()
}

// readAssembly says what ReadAssembly must return.
func readAssembly(set impl.TileSet, text string) (impl.Assembly, int64, int64) {
	if !isSet(set) {
		return impl.Assembly{}, 0, impl.ErrInvalid
	}
	if len(text) > 20000 {
		return impl.Assembly{}, 0, impl.ErrRange
	}
	tiles := map[impl.Point]int64{}
	for i, line := range linesIn(text) {
		code := int64(impl.OK)
		parts := append(placedForm.FindStringSubmatch(line), "", "", "")
		p, isPoint := pointIn(parts[2])
		index := slices.IndexFunc(set.Tiles, func(x impl.Tile) bool { return x.Name == parts[1] })
		_, taken := tiles[p]
		switch {
		case !isPoint:
			code = impl.ErrSyntax
		case index < 0:
			code = impl.ErrNotFound
		case taken:
			code = impl.ErrClash
		case i >= 500:
			code = impl.ErrFull
		}
		if code != impl.OK {
			return impl.Assembly{}, int64(i + 1), code
		}
		tiles[p] = int64(index)
	}
	return assemblyOf(tiles), 0, impl.OK
}

// reading is a function that reads an assembly with the tiles of a set, or one that says what must be read.
type reading func(set impl.TileSet, text string) (impl.Assembly, int64, int64)

// checkReading reads a text and compares all results with what they must be. It returns the code.
func checkReading(t *testing.T, what string, read, expect reading, set impl.TileSet, text string) int64 {
	t.Helper()
	want, wantLine, wantCode := expect(set, text)
	got, line, code := read(set, text)
	if line != wantLine || code != wantCode || !equalAssemblies(got, want) {
		t.Fatalf("%s(%s) is %v, %d, %s, not %v, %d, %s", what, shortened(text), got, line, codeText(code), want, wantLine, codeText(wantCode))
	}
	return code
}

func checkReadAssembly(t *testing.T, set impl.TileSet, text string) int64 {
	t.Helper()
	return checkReading(t, "ReadAssembly", impl.ReadAssembly, readAssembly, set, text)
}

func checkReadGrid(t *testing.T, set impl.TileSet, text string) int64 {
	t.Helper()
	return checkReading(t, "ReadGrid", impl.ReadGrid, readGrid, set, text)
}

// gridTextOf says what the rows of an assembly with tiles are.
func gridTextOf(a impl.Assembly) string {
	low, high := limitsOf(pointsIn(a))
	words := make([][]string, high.Y-low.Y+1)
	for i := range words {
		words[i] = slices.Repeat([]string{"."}, int(high.X-low.X+1))
	}
	for _, x := range a.Tiles {
		words[high.Y-x.At.Y][x.At.X-low.X] = strconv.FormatInt(x.Tile, 10)
	}
	var text strings.Builder
	for _, row := range words {
		text.WriteString(strings.Join(row, " ") + "\n")
	}
	return text.String()
}

// readGrid says what ReadGrid must return.
func readGrid(set impl.TileSet, text string) (impl.Assembly, int64, int64) {
	if !isSet(set) {
		return impl.Assembly{}, 0, impl.ErrInvalid
	}
	if len(text) > 20000 {
		return impl.Assembly{}, 0, impl.ErrRange
	}
	rows, tiles := linesIn(text), map[impl.Point]int64{}
	for y := range len(rows) {
		line := len(rows) - y
		for x, word := range wordsIn(rows[line-1]) {
			index, isNumber := numberIn(word)
			isTile := isNumber && index >= 0 && index < int64(len(set.Tiles))
			if x > 60 || y > 60 || word != "." && !isTile {
				return impl.Assembly{}, int64(line), impl.ErrSyntax
			}
			if isTile && len(tiles) >= 500 {
				return impl.Assembly{}, int64(line), impl.ErrFull
			}
			if isTile {
				tiles[impl.Point{X: int64(x), Y: int64(y)}] = index
			}
		}
	}
	return assemblyOf(tiles), 0, impl.OK
}

// longestSet is a set with as many glues and tiles as a set may have, all with the longest names, and glues on all sides.
func longestSet() impl.TileSet {
	var set impl.TileSet
	for i := range 200 {
		set.Glues = append(set.Glues, glue(fmt.Sprintf("glue_name%03d", i), int64(4-i%4)))
	}
	for i := range 160 {
		n := int64(i)
		set.Tiles = append(set.Tiles, tile(fmt.Sprintf("tile_name%03d", i), 1+n%200, 200-n, 1+(n*7)%200, 1+(n*n)%200))
	}
	return set
}

// withinSet is an assembly with the points of another one and tiles that a set has.
func withinSet(set impl.TileSet, a impl.Assembly) impl.Assembly {
	result := copyAssembly(a)
	for i := range result.Tiles {
		result.Tiles[i].Tile %= int64(len(set.Tiles))
	}
	return result
}
