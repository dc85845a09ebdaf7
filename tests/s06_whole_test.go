package tests

import (
	"slices"
	"testing"

	"loop.example/g01081/impl"
)

// totalOf is the strength of the assembly of a part.
func totalOf(t *testing.T, x tiling, part []int64) int64 {
	t.Helper()
	sub, code := impl.SubAssembly(x.a, part)
	if code != impl.OK || !impl.ValidAssembly(x.set, sub) {
		t.Fatalf("SubAssembly(%v, %v) is %v, %d", x.a, part, sub, code)
	}
	total, code := impl.TotalStrength(x.set, sub)
	if code != impl.OK {
		t.Fatalf("TotalStrength(%v, %v) is %d, %d", x.set, sub, total, code)
	}
	return total
}

// TestWhole says that the strengths of a part, of the rest and of the cut between them make the whole.
func TestWhole(t *testing.T) {
	proper := 0
	for _, x := range tilings() {
		whole, _ := impl.TotalStrength(x.set, x.a)
		for _, part := range somePartsOf(x.a) {
			rest := restOf(x.a, part)
			cut, code := impl.CutStrength(x.set, x.a, part)
			other, otherCode := impl.CutStrength(x.set, x.a, rest)
			a, b := totalOf(t, x, part), totalOf(t, x, rest)
			if code != impl.OK || otherCode != impl.OK || cut != other || a+b+cut != whole {
				t.Fatalf("the part %v has %d, the rest %d, the cut %d and %d, and the whole %d, in %v", part, a, b, cut, other, whole, x)
			}
			if a > 0 && b > 0 && cut > 0 {
				proper++
			}
		}
	}
	if proper < 500 {
		t.Error("only so many parts, rests and cuts with strengths:", proper)
	}
}

// TestWholeJoined says that a part and the rest are joined to the assembly again.
func TestWholeJoined(t *testing.T) {
	for _, a := range formedAssemblies() {
		for _, part := range somePartsOf(a) {
			sub, _ := impl.SubAssembly(a, part)
			rest, _ := impl.SubAssembly(a, restOf(a, part))
			if joined, code := impl.JoinAssemblies(sub, rest); !equalAssemblies(joined, a) || code != impl.OK {
				t.Fatalf("%v and %v are joined to %v, %d, not to %v", sub, rest, joined, code, a)
			}
		}
	}
}

// TestPartBindings says that the tiles of a part bind with its own bonds, twice, and with those of the cut.
func TestPartBindings(t *testing.T) {
	for _, x := range tilings() {
		bindings, _ := impl.BindingsOf(x.set, x.a)
		for _, part := range somePartsOf(x.a) {
			sum := int64(0)
			for _, place := range part {
				sum += bindings[place]
			}
			cut, _ := impl.CutStrength(x.set, x.a, part)
			if want := 2*totalOf(t, x, part) + cut; sum != want {
				t.Fatalf("the tiles of %v bind with %d, not %d, in %v", part, sum, want, x)
			}
		}
	}
}

// TestBondedWhole says that no bonds leave the parts that are connected by bonds, that these make the whole, and that each of them is connected.
func TestBondedWhole(t *testing.T) {
	several := 0
	for _, x := range tilings() {
		parts, _ := impl.BondedParts(x.set, x.a)
		whole, _ := impl.TotalStrength(x.set, x.a)
		sum, places := int64(0), []int64(nil)
		for _, part := range parts {
			if cut, code := impl.CutStrength(x.set, x.a, part); cut != 0 || code != impl.OK {
				t.Fatalf("the bonded part %v has a cut of %d, %d in %v", part, cut, code, x)
			}
			sub, _ := impl.SubAssembly(x.a, part)
			if again, code := impl.BondedParts(x.set, sub); len(again) != 1 || !slices.Equal(again[0], allPlaces(sub)) || code != impl.OK {
				t.Fatalf("the bonded part %v has the parts %v, %d in %v", part, again, code, x)
			}
			sum += totalOf(t, x, part)
			places = append(places, part...)
		}
		slices.Sort(places)
		if sum != whole || !slices.Equal(places, allPlaces(x.a)) {
			t.Fatalf("the bonded parts %v have %d of %d in %v", parts, sum, whole, x)
		}
		if len(parts) > 1 && whole > 0 {
			several++
		}
	}
	if several < 100 {
		t.Error("only so many assemblies with bonds in several parts:", several)
	}
}

// TestSmallCuts has all parts of all assemblies of a small window: a part without a cut has whole bonded parts alone.
func TestSmallCuts(t *testing.T) {
	for _, set := range []impl.TileSet{sidedSet(), fourSides(), plainSet()} {
		for _, a := range gridAssemblies(2, 2, int64(min(len(set.Tiles), 5))) {
			parts, _ := impl.BondedParts(set, a)
			for _, part := range somePartsOf(a) {
				torn := false
				for _, bonded := range parts {
					in := slices.Contains(part, bonded[0])
					torn = torn || slices.ContainsFunc(bonded, func(place int64) bool { return slices.Contains(part, place) != in })
				}
				if cut, code := impl.CutStrength(set, a, part); (cut > 0) != torn || code != impl.OK {
					t.Fatalf("CutStrength(%v, %v, %v) is %d, %d with the bonded parts %v", set, a, part, cut, code, parts)
				}
			}
		}
	}
}
