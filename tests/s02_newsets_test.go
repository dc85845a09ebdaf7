package tests

import (
	"fmt"
	"testing"

	"loop.example/g01081/impl"
)

// checkNewSet compares a new set with what it must be.
func checkNewSet(t *testing.T, what string, got impl.TileSet, code int64, want impl.TileSet) {
	t.Helper()
	if code != impl.OK || !equalSets(got, want) {
		t.Errorf("%s is %v, %d, not %v", what, got, code, want)
	}
}

// checkBonds checks that each bond of an old set is in the new one, where its tiles are told by places and its directions by turn.
func checkBonds(t *testing.T, what string, old, result impl.TileSet, places []int64, turn func(dir int64) int64) {
	t.Helper()
	if !impl.ValidSet(result) {
		t.Errorf("%s is not valid: %v", what, result)
		return
	}
	for a := range int64(len(old.Tiles)) {
		for b := range int64(len(old.Tiles)) {
			for dir := range int64(4) {
				want := bondIn(old, a, dir, b)
				if got := bondIn(result, places[a], turn(dir), places[b]); got != want {
					t.Fatalf("%s has the bond %d of the tiles %d and %d in direction %d, not %d", what, got, a, b, dir, want)
				}
				if len(old.Tiles) > 20 {
					continue
				}
				if got, code := impl.BondOf(result, places[a], turn(dir), places[b]); got != want || code != impl.OK {
					t.Fatalf("%s: BondOf the tiles %d and %d in direction %d is %d, %d, not %d", what, a, b, dir, got, code, want)
				}
			}
		}
	}
}

// samePlaces are the places of tiles that keep their indices.
func samePlaces(set impl.TileSet) []int64 {
	places := make([]int64, len(set.Tiles))
	for i := range places {
		places[i] = int64(i)
	}
	return places
}

func sameDirection(dir int64) int64 { return dir }

func TestRotateSet(t *testing.T) {
	for _, set := range validSets() {
		for quarters := range int64(4) {
			want := copySet(set)
			for i := range want.Tiles {
				for dir := range int64(4) {
					want.Tiles[i].Sides[(dir+quarters)%4] = set.Tiles[i].Sides[dir]
				}
			}
			what := fmt.Sprintf("RotateSet(%v, %d)", set, quarters)
			got, code := impl.RotateSet(set, quarters)
			checkNewSet(t, what, got, code, want)
			checkBonds(t, what, set, got, samePlaces(set), func(dir int64) int64 { return (dir + quarters) % 4 })
			back, code := impl.RotateSet(got, (4-quarters)%4)
			checkNewSet(t, what+", turned back,", back, code, set)
		}
	}
}

func TestRotateSetTable(t *testing.T) {
	set := impl.TileSet{Glues: []impl.Glue{glue("n", 1), glue("e", 2), glue("s", 3), glue("w", 4)}, Tiles: []impl.Tile{tile("x", 1, 2, 3, 4)}}
	for quarters, sides := range [][]int64{{1, 2, 3, 4}, {4, 1, 2, 3}, {3, 4, 1, 2}, {2, 3, 4, 1}} {
		got, code := impl.RotateSet(set, int64(quarters))
		checkNewSet(t, fmt.Sprint("RotateSet by ", quarters), got, code, impl.TileSet{Glues: set.Glues, Tiles: []impl.Tile{tile("x", sides...)}})
	}
}

func TestRotateSetRange(t *testing.T) {
	for _, set := range []impl.TileSet{pairSet(), plainSet(), countedSet("g", 200, 160)} {
		for _, quarters := range edgeNumbers() {
			got, code := impl.RotateSet(set, quarters)
			if within := quarters >= 0 && quarters <= 3; code != rangeCode(within) || !within && !isZeroSet(got) {
				t.Errorf("RotateSet by %d is %v, %d", quarters, got, code)
			}
		}
	}
}

func TestMirrorSet(t *testing.T) {
	for _, set := range validSets() {
		want := copySet(set)
		for i, x := range set.Tiles {
			want.Tiles[i] = tile(x.Name, x.Sides[0], x.Sides[3], x.Sides[2], x.Sides[1])
		}
		what := fmt.Sprintf("MirrorSet(%v)", set)
		got, code := impl.MirrorSet(set)
		checkNewSet(t, what, got, code, want)
		checkBonds(t, what, set, got, samePlaces(set), func(dir int64) int64 { return (4 - dir) % 4 })
		back, code := impl.MirrorSet(got)
		checkNewSet(t, what+", mirrored again,", back, code, set)
	}
	set := impl.TileSet{Glues: []impl.Glue{glue("n", 1), glue("e", 2), glue("s", 3), glue("w", 4)}, Tiles: []impl.Tile{tile("x", 1, 2, 3, 4)}}
	got, code := impl.MirrorSet(set)
	checkNewSet(t, "MirrorSet", got, code, impl.TileSet{Glues: set.Glues, Tiles: []impl.Tile{tile("x", 1, 4, 3, 2)}})
}

// TestNewSetsInvalid has invalid sets, also where another argument is out of its range or a merged set would clash.
func TestNewSetsInvalid(t *testing.T) {
	for _, faulty := range invalidSets() {
		for _, quarters := range []int64{0, 1, 2, 3, 4, -1} {
			if got, code := impl.RotateSet(faulty.set, quarters); !isZeroSet(got) || code != impl.ErrInvalid {
				t.Errorf("RotateSet is %v, %d, though: %s", got, code, faulty.why)
			}
		}
		if got, code := impl.MirrorSet(faulty.set); !isZeroSet(got) || code != impl.ErrInvalid {
			t.Errorf("MirrorSet is %v, %d, though: %s", got, code, faulty.why)
		}
		if got, places, code := impl.TrimSet(faulty.set); !isZeroSet(got) || len(places) != 0 || code != impl.ErrInvalid {
			t.Errorf("TrimSet is %v, %v, %d, though: %s", got, places, code, faulty.why)
		}
	}
}

// trimmedSet says what TrimSet must return.
func trimmedSet(set impl.TileSet) (impl.TileSet, []int64) {
	var trimmed impl.TileSet
	numbers := map[int64]int64{0: 0}
	for i, g := range set.Glues {
		if isUsed(set, int64(i+1)) {
			trimmed.Glues = append(trimmed.Glues, g)
			numbers[int64(i+1)] = int64(len(trimmed.Glues))
		}
	}
	places := make([]int64, len(set.Tiles))
	for i, x := range set.Tiles {
		places[i] = -1
		for j := i - 1; j >= 0; j-- {
			if fmt.Sprint(set.Tiles[j].Sides) == fmt.Sprint(x.Sides) {
				places[i] = places[j]
			}
		}
		if places[i] < 0 {
			places[i] = int64(len(trimmed.Tiles))
			trimmed.Tiles = append(trimmed.Tiles, tile(x.Name, numbers[x.Sides[0]], numbers[x.Sides[1]], numbers[x.Sides[2]], numbers[x.Sides[3]]))
		}
	}
	return trimmed, places
}

func isUsed(set impl.TileSet, k int64) bool {
	for _, x := range set.Tiles {
		for _, side := range x.Sides {
			if side == k {
				return true
			}
		}
	}
	return false
}

// checkTrim trims a set and checks all of the result, also that trimming it again changes nothing.
func checkTrim(t *testing.T, set impl.TileSet) {
	t.Helper()
	what := fmt.Sprintf("TrimSet(%v)", set)
	got, places, code := impl.TrimSet(set)
	want, wantPlaces := trimmedSet(set)
	checkNewSet(t, what, got, code, want)
	if fmt.Sprint(places) != fmt.Sprint(wantPlaces) {
		t.Fatalf("%s has the places %v, not %v", what, places, wantPlaces)
	}
	checkBonds(t, what, set, got, places, sameDirection)
	again, places, code := impl.TrimSet(got)
	checkNewSet(t, what+", trimmed again,", again, code, got)
	if fmt.Sprint(places) != fmt.Sprint(samePlaces(got)) {
		t.Errorf("%s, trimmed again, has the places %v", what, places)
	}
}

func TestTrimSet(t *testing.T) {
	for _, set := range validSets() {
		checkTrim(t, set)
	}
	for n := range 300 {
		checkTrim(t, drawSet(uint64(n+1000)))
	}
	same := countedSet("g", 200, 160)
	for i := range same.Tiles {
		same.Tiles[i] = tile(same.Tiles[i].Name, 200, 3, 0, 200)
	}
	checkTrim(t, same)
	same.Tiles[0].Sides[0] = 199
	checkTrim(t, same)
	same.Tiles[159].Sides[3] = 0
	checkTrim(t, same)
}

func TestTrimSetTable(t *testing.T) {
	glues := []impl.Glue{glue("a", 2), glue("b", 2), glue("c", 2), glue("d", 1)}
	cases := []struct {
		tiles  []impl.Tile
		want   impl.TileSet
		places []int64
	}{
		{
			[]impl.Tile{tile("x", 1, 2, 3, 4), tile("y", 1, 2, 3, 4)},
			impl.TileSet{Glues: glues, Tiles: []impl.Tile{tile("x", 1, 2, 3, 4)}}, []int64{0, 0},
		}, {
			[]impl.Tile{tile("y", 0, 0, 0, 0), tile("x", 0, 0, 0, 0)},
			impl.TileSet{Tiles: []impl.Tile{tile("y", 0, 0, 0, 0)}}, []int64{0, 0},
		}, {
			[]impl.Tile{tile("p", 2, 0, 0, 0), tile("q", 0, 2, 0, 0), tile("p2", 2, 0, 0, 0), tile("r", 0, 0, 2, 0), tile("q2", 0, 2, 0, 0), tile("s", 0, 0, 0, 2), tile("s2", 0, 0, 0, 2)},
			impl.TileSet{Glues: []impl.Glue{glue("b", 2)}, Tiles: []impl.Tile{tile("p", 1, 0, 0, 0), tile("q", 0, 1, 0, 0), tile("r", 0, 0, 1, 0), tile("s", 0, 0, 0, 1)}},
			[]int64{0, 1, 0, 2, 1, 3, 3},
		}, {
			[]impl.Tile{tile("p", 3, 0, 4, 0), tile("a", 4, 0, 3, 0), tile("q", 3, 0, 4, 3)},
			impl.TileSet{Glues: []impl.Glue{glue("c", 2), glue("d", 1)}, Tiles: []impl.Tile{tile("p", 1, 0, 2, 0), tile("a", 2, 0, 1, 0), tile("q", 1, 0, 2, 1)}},
			[]int64{0, 1, 2},
		}, {
			[]impl.Tile{tile("p", 1, 0, 3, 0), tile("q", 1, 0, 1, 0), tile("r", 3, 0, 3, 0)},
			impl.TileSet{Glues: []impl.Glue{glue("a", 2), glue("c", 2)}, Tiles: []impl.Tile{tile("p", 1, 0, 2, 0), tile("q", 1, 0, 1, 0), tile("r", 2, 0, 2, 0)}},
			[]int64{0, 1, 2},
		},
	}
	for _, c := range cases {
		got, places, code := impl.TrimSet(impl.TileSet{Glues: glues, Tiles: c.tiles})
		checkNewSet(t, fmt.Sprintf("TrimSet of %v", c.tiles), got, code, c.want)
		if fmt.Sprint(places) != fmt.Sprint(c.places) {
			t.Errorf("TrimSet of %v has the places %v", c.tiles, places)
		}
	}
}

// TestTrimSetConfusable has tiles whose sides would be equal if they were joined to one text or number, in sets that keep all glues.
func TestTrimSetConfusable(t *testing.T) {
	all := impl.TileSet{Glues: countedSet("g", 200, 1).Glues}
	for i := range 50 {
		k := int64(4 * i)
		all.Tiles = append(all.Tiles, tile(fmt.Sprint("t", i), k+1, k+2, k+3, k+4))
	}
	for dir := range 3 {
		check := func(pairs ...[2]int64) {
			set := copySet(all)
			for i, pair := range pairs {
				x := tile(fmt.Sprint("x", i), 0, 0, 0, 0)
				x.Sides[dir], x.Sides[dir+1] = pair[0], pair[1]
				set.Tiles = append(set.Tiles, x)
			}
			checkTrim(t, set)
		}
		for k := int64(2); k <= 200; k++ {
			check([2]int64{1, 0}, [2]int64{0, k}, [2]int64{k, 0}, [2]int64{0, 1}, [2]int64{1, k}, [2]int64{k, 1})
		}
		check([2]int64{1, 12}, [2]int64{11, 2}, [2]int64{112, 0}, [2]int64{1, 120}, [2]int64{11, 20}, [2]int64{112, 1}, [2]int64{11, 21})
	}
}
