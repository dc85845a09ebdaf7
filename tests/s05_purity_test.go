package tests

import (
	"fmt"
	"strings"
	"testing"

	"loop.example/g01081/impl"
)

// argumentTexts are texts of sets, assemblies and grids, right and wrong ones, and other texts, also long ones.
func argumentTexts() []string {
	texts := append(basicsTexts(),
		"\n", " ", "a\n\nb\n", " a  b", "x\ny", "glue a 2\ntile l - a - -\ntile r - - - a\n", "glue a 2\ntile l b - - -", "tile l - - - -\nglue a 2", "glue a 9\ntile l - - - -", "tile x - - - -",
		"l 0,0\nr 1,1", "r 1,1\nl 0,0\n", "l 0,0\nr 0,0", "l 0,61", "g0 0,0\ng7 -3,2", "x 5,5", "0", ". 1\n0 .\n", "0 2\n0", "0 1 0 1 .\n\n1", "2\n2",
		strings.Repeat("\n", 20000), strings.Repeat(" ", 20001), strings.Repeat("0 ", 600), strings.Repeat("0\n", 61),
	)
	for _, set := range []impl.TileSet{plainSet(), drawSet(3), drawSet(8), longestSet()} {
		texts = append(texts, setTextOf(set), setTextOf(set)+"x")
	}
	for _, a := range []impl.Assembly{plainAssembly(), drawAssembly(7), rowsAssembly(impl.Point{X: -12, Y: -10}, 25, 500)} {
		texts = append(texts, assemblyTextOf(countedSet("g", 3, 160), a), gridTextOf(a), gridTextOf(withinSet(pairSet(), a)))
	}
	return texts
}

// textCalls are calls of every function of chapter 5 with ordinary and extreme arguments; each returns a text of its results.
func textCalls(sets []impl.TileSet, list []impl.Assembly, texts []string) []func() string {
	var calls []func() string
	add := func(call func() string) { calls = append(calls, call) }
	for _, text := range texts {
		add(func() string { return fmt.Sprintf("%q", impl.SplitLines(text)) })
		add(func() string { return fmt.Sprintf("%q", impl.SplitWords(text)) })
		add(func() string { return fmt.Sprint(impl.ReadSet(text)) })
		for _, set := range sets {
			add(func() string { return fmt.Sprint(impl.ReadAssembly(set, text)) })
			add(func() string { return fmt.Sprint(impl.ReadGrid(set, text)) })
		}
	}
	for _, set := range sets {
		add(func() string { return impl.SetText(set) })
		for _, a := range list {
			add(func() string { return impl.AssemblyText(set, a) })
			add(func() string { return impl.GridText(set, a) })
		}
	}
	return calls
}

// TestTextsPure makes all calls again, also with equal sets and assemblies in other memory.
func TestTextsPure(t *testing.T) {
	list := argumentAssemblies()
	var copies []impl.Assembly
	for _, a := range list {
		copies = append(copies, copyAssembly(a))
	}
	var sets []impl.TileSet
	for _, set := range callSets() {
		sets = append(sets, copySet(set))
	}
	checkPure(t, textCalls(callSets(), list, argumentTexts()), textCalls(sets, copies, argumentTexts()))
}

// TestTextsUnchanged checks after each call that no set and no assembly has changed, not even in its unused capacity.
func TestTextsUnchanged(t *testing.T) {
	list, texts := argumentAssemblies(), argumentTexts()
	sets := append(argumentSets()[:12], callSets()...)
	for i, set := range sets {
		few := othersOf(list, (i*5)%len(list))
		setKept, tilesKept := watch(set), watchTiles(few...)
		for j, call := range textCalls([]impl.TileSet{set}, few, texts) {
			call()
			if !setKept() || !tilesKept() {
				t.Fatalf("call %d changed %v or one of %v", j, set, few)
			}
		}
	}
	for _, set := range argumentSets() {
		kept := watch(set)
		if impl.SetText(set); !kept() {
			t.Fatalf("SetText changed %v", set)
		}
	}
	for _, a := range list {
		kept := watchTiles(a)
		for _, set := range callSets() {
			impl.AssemblyText(set, a)
			if impl.GridText(set, a); !kept() {
				t.Fatalf("a text of %v changed it", a)
			}
		}
	}
}

// textSlices are calls of each function with slices in its results, for a set and a text; each returns these slices and a text of all.
func textSlices(set impl.TileSet, text string) []func() ([]piece, string) {
	words := func(list []string) ([]piece, string) {
		return []piece{pieceOf(list, "junk")}, fmt.Sprintf("%q", list)
	}
	tiles := func(a impl.Assembly, line, code int64) ([]piece, string) {
		return []piece{pieceOf(a.Tiles, placed(7, 7, 77))}, fmt.Sprint(a, line, code)
	}
	return []func() ([]piece, string){
		func() ([]piece, string) { return words(impl.SplitLines(text)) },
		func() ([]piece, string) { return words(impl.SplitWords(text)) },
		func() ([]piece, string) { return tiles(impl.ReadAssembly(set, text)) },
		func() ([]piece, string) { return tiles(impl.ReadGrid(set, text)) },
		func() ([]piece, string) {
			result, line, code := impl.ReadSet(text)
			return piecesOf(result, nil), fmt.Sprint(result, line, code)
		},
	}
}

// TestTextsShareNoMemory writes over each slice of a result, with its unused capacity: no argument and no other slice may change, and the call must return the same again.
func TestTextsShareNoMemory(t *testing.T) {
	most := 0
	for _, set := range []impl.TileSet{roomySet(countedSet("g", 3, 160)), roomySet(pairSet()), plainSet()} {
		for i, text := range argumentTexts() {
			for j, call := range textSlices(set, text) {
				pieces, want := call()
				most = max(most, len(pieces))
				what := fmt.Sprintf("call %d with text %d, %s", j, i, shortened(text))
				checkPieces(t, what, pieces, watch(set))
				for _, p := range pieces {
					p.write()
				}
				if _, got := call(); got != want {
					t.Fatalf("%s returned %s and then %s", what, want, got)
				}
			}
		}
	}
	if most < 160 {
		t.Error("no result has more slices than", most)
	}
}
