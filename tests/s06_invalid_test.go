package tests

import (
	"testing"

	"loop.example/g01081/impl"
)

// checkAllInvalid calls each function that has a set with a set and an assembly that are not valid together: all return ErrInvalid and zero values.
func checkAllInvalid(t *testing.T, why string, set impl.TileSet, a impl.Assembly, p impl.Point, tile int64, part []int64) {
	t.Helper()
	if list, code := impl.BondsOf(set, a); len(list) != 0 || code != impl.ErrInvalid {
		t.Errorf("BondsOf is %v, %d, though: %s", list, code, why)
	}
	if list, code := impl.MismatchesOf(set, a); len(list) != 0 || code != impl.ErrInvalid {
		t.Errorf("MismatchesOf is %v, %d, though: %s", list, code, why)
	}
	if n, code := impl.BindingAt(set, a, p, tile); n != 0 || code != impl.ErrInvalid {
		t.Errorf("BindingAt %v of tile %d is %d, %d, though: %s", p, tile, n, code, why)
	}
	if list, code := impl.BindingsOf(set, a); len(list) != 0 || code != impl.ErrInvalid {
		t.Errorf("BindingsOf is %v, %d, though: %s", list, code, why)
	}
	if n, code := impl.TotalStrength(set, a); n != 0 || code != impl.ErrInvalid {
		t.Errorf("TotalStrength is %d, %d, though: %s", n, code, why)
	}
	if parts, code := impl.BondedParts(set, a); len(parts) != 0 || code != impl.ErrInvalid {
		t.Errorf("BondedParts is %v, %d, though: %s", parts, code, why)
	}
	if n, code := impl.CutStrength(set, a, part); n != 0 || code != impl.ErrInvalid {
		t.Errorf("CutStrength of %v is %d, %d, though: %s", part, n, code, why)
	}
}

// badArguments are points, tiles and parts for a call that is invalid anyway: right and wrong ones.
func badArguments(a impl.Assembly, check func(p impl.Point, tile int64, part []int64)) {
	check(impl.Point{}, 0, nil)
	check(impl.Point{X: 1}, 1, allPlaces(a))
	check(impl.Point{X: 61}, 0, []int64{-1})
	check(impl.Point{}, -1, []int64{0, 0})
	check(impl.Point{X: -1 << 63, Y: 1<<63 - 1}, 1<<63-1, []int64{1, 0})
}

// TestSetsInvalid has invalid sets, with assemblies that would be valid for others, and with right and wrong other arguments.
func TestSetsInvalid(t *testing.T) {
	for _, faulty := range invalidSets() {
		for _, a := range []impl.Assembly{{}, assembly(placed(0, 0, 0)), assembly(placed(0, 0, 0), placed(1, 0, 1), placed(0, 1, 2))} {
			badArguments(a, func(p impl.Point, tile int64, part []int64) {
				checkAllInvalid(t, faulty.why, faulty.set, a, p, tile, part)
			})
		}
	}
}

// TestUnformedInvalid has assemblies without the form of one, for which SubAssembly returns ErrInvalid as well.
func TestUnformedInvalid(t *testing.T) {
	set := countedSet("g", 3, 160)
	for _, faulty := range unformedAssemblies() {
		badArguments(faulty.assembly, func(p impl.Point, tile int64, part []int64) {
			checkAllInvalid(t, faulty.why, set, faulty.assembly, p, tile, part)
			if sub, code := impl.SubAssembly(faulty.assembly, part); len(sub.Tiles) != 0 || code != impl.ErrInvalid {
				t.Errorf("SubAssembly of %v is %v, %d, though: %s", part, sub, code, faulty.why)
			}
		})
	}
}

// TestOtherSetInvalid has assemblies with a tile after the last one of the set at each place, of which SubAssembly knows nothing.
func TestOtherSetInvalid(t *testing.T) {
	for _, count := range []int64{1, 2, 3, 159} {
		set := countedSet("g", 2, int(count))
		for i := range plainAssembly().Tiles {
			for _, tile := range []int64{count, count + 1, 159} {
				if tile > 159 {
					continue
				}
				a := withinSet(set, plainAssembly())
				a.Tiles[i].Tile = tile
				badArguments(a, func(p impl.Point, tile int64, part []int64) {
					checkAllInvalid(t, "a tile that the set does not have", set, a, p, tile, part)
				})
				if sub, code := impl.SubAssembly(a, allPlaces(a)); !equalAssemblies(sub, a) || code != impl.OK {
					t.Errorf("SubAssembly of all tiles of %v is %v, %d", a, sub, code)
				}
				if sub, code := impl.SubAssembly(a, []int64{-1}); len(sub.Tiles) != 0 || code != impl.ErrRange {
					t.Errorf("SubAssembly of no part of %v is %v, %d", a, sub, code)
				}
			}
		}
	}
}
