package tests

import (
	"cmp"
	"math"
	"math/bits"
	"slices"

	"loop.example/g01081/impl"
)

// The functions of this file say what those of chapter 7 must return. For few tiles they look at all cuts and at all parts.

// fewTiles is the greatest number of tiles of which all cuts are looked at.
const fewTiles = 10

// bondsFor are the bonds of an assembly by places, and the number of its tiles.
func bondsFor(x tiling) ([]impl.Bond, int) { return bondsIn(x.set, x.a), len(x.a.Tiles) }

// cutsIn has the strengths of all cuts: the tiles of the cut n are those whose bits are 1 in n.
func cutsIn(bonds []impl.Bond, count int) []int64 {
	cuts := make([]int64, 1<<count)
	for n := range cuts {
		for _, bond := range bonds {
			if n>>bond.A&1 != n>>bond.B&1 {
				cuts[n] += bond.Strength
			}
		}
	}
	return cuts
}

// partIn are the places whose bits are 1.
func partIn(n int) []int64 {
	var part []int64
	for place := range int64(64) {
		if n>>place&1 == 1 {
			part = append(part, place)
		}
	}
	return part
}

// separatedIn says what Connectivity and SeparatingPart must return.
func separatedIn(bonds []impl.Bond, count int, x, y int64) (int64, []int64) {
	if count > fewTiles {
		return separatedMany(bonds, count, x, y)
	}
	least, common := int64(math.MaxInt64), 0
	for n, strength := range cutsIn(bonds, count) {
		switch {
		case n>>y&1 == 0 || n>>x&1 == 1 || strength > least:
		case strength < least:
			least, common = strength, n
		default: // what is in all of them
			common &= n
		}
	}
	return least, partIn(common)
}

// separatedMany is for many tiles: a tile is in all of the weakest cuts if none of them leaves it with x.
func separatedMany(bonds []impl.Bond, count int, x, y int64) (int64, []int64) {
	least := streamIn(bonds, count, []int64{x}, y)
	var part []int64
	for place := range int64(count) {
		if place == y || place != x && streamIn(bonds, count, []int64{x, place}, y) > least {
			part = append(part, place)
		}
	}
	return least, part
}

// streamIn is how much can flow from some places together to another one; ways are looked for in the depth.
func streamIn(bonds []impl.Bond, count int, from []int64, to int64) int64 {
	links := make([][]int, count)
	for i, bond := range bonds {
		links[bond.A] = append(links[bond.A], i)
		links[bond.B] = append(links[bond.B], i)
	}
	flow, seen, value := make([]int64, len(bonds)), make([]bool, count), int64(0)
	var visit func(place int64) bool
	visit = func(place int64) bool {
		if place == to {
			return true
		}
		seen[place] = true
		for _, i := range links[place] {
			other, step := bonds[i].B, int64(1)
			if other == place {
				other, step = bonds[i].A, -1
			}
			if !seen[other] && step*flow[i] < bonds[i].Strength && visit(other) {
				flow[i] += step
				return true
			}
		}
		return false
	}
	for _, place := range from {
		for clear(seen); visit(place); clear(seen) {
			value++
		}
	}
	return value
}

// flowIn says what FlowBetween must return, and how often a unit took back what flowed over a bond.
func flowIn(bonds []impl.Bond, count int, x, y int64) (int64, []int64, int) {
	value, flow, back := int64(0), make([]int64, len(bonds)), 0
	for {
		way := wayIn(bonds, flow, count, x, y)
		if way == nil {
			return value, flow, back
		}
		value++
		back += sendAlong(bonds, flow, way)
	}
}

// sendAlong lets one more unit flow along a way, and says how often it takes back what flows already.
func sendAlong(bonds []impl.Bond, flow, way []int64) int {
	back := 0
	for k, place := range way[1:] {
		for i, bond := range bonds {
			switch (impl.Bond{A: way[k], B: place}) {
			case impl.Bond{A: bond.A, B: bond.B}:
				back += btoi(flow[i] < 0)
				flow[i]++
			case impl.Bond{A: bond.B, B: bond.A}:
				back += btoi(flow[i] > 0)
				flow[i]--
			}
		}
	}
	return back
}

func btoi(b bool) int {
	if b {
		return 1
	}
	return 0
}

// wayIn is the lexicographically first one of all shortest ways with room, and nil if there is none: all ways that may be shortest are made longer by one place again and again.
func wayIn(bonds []impl.Bond, flow []int64, count int, x, y int64) []int64 {
	ways, reached := [][]int64{{x}}, make([]bool, count)
	for len(ways) > 0 {
		var longer [][]int64
		for _, way := range ways {
			reached[way[len(way)-1]] = true
		}
		for _, way := range ways {
			for i, bond := range bonds {
				last := way[len(way)-1]
				if last == bond.A && !reached[bond.B] && flow[i] < bond.Strength {
					longer = append(longer, append(slices.Clone(way), bond.B))
				} else if last == bond.B && !reached[bond.A] && -flow[i] < bond.Strength {
					longer = append(longer, append(slices.Clone(way), bond.A))
				}
			}
		}
		ways = longer
		ends := slices.DeleteFunc(slices.Clone(ways), func(way []int64) bool { return way[len(way)-1] != y })
		if len(ends) > 0 {
			return slices.MinFunc(ends, slices.Compare)
		}
	}
	return nil
}

// valueIn says what CheckFlow must return for a list of numbers, and whether it is a flow.
func valueIn(bonds []impl.Bond, x, y int64, flow []int64) (int64, bool) {
	if len(flow) != len(bonds) {
		return 0, false
	}
	leaves := map[int64]int64{}
	for i, bond := range bonds {
		if flow[i] > 4 || flow[i] < -4 || max(flow[i], -flow[i]) > bond.Strength {
			return 0, false
		}
		leaves[bond.A] += flow[i]
		leaves[bond.B] -= flow[i]
	}
	for place, n := range leaves {
		if n != 0 && place != x && place != y {
			return 0, false
		}
	}
	return leaves[x], true
}

// weakestIn says what WeakestCut must return.
func weakestIn(bonds []impl.Bond, count int) (int64, []int64) {
	best, part := int64(math.MaxInt64), []int64(nil)
	take := func(strength int64, places []int64) {
		if cmp.Or(cmp.Compare(strength, best), cmp.Compare(len(places), len(part)), slices.Compare(places, part)) < 0 {
			best, part = strength, places
		}
	}
	if count <= fewTiles {
		for n, strength := range cutsIn(bonds, count) {
			if n > 0 && n&1 == 0 {
				take(strength, partIn(n))
			}
		}
		return best, part
	}
	for y := int64(1); y < int64(count); y++ {
		take(separatedIn(bonds, count, 0, y))
	}
	return best, part
}

// withinBonds are the bonds between places of a part alone.
func withinBonds(bonds []impl.Bond, part []int64) []impl.Bond {
	return slices.DeleteFunc(slices.Clone(bonds), func(bond impl.Bond) bool {
		return !slices.Contains(part, bond.A) || !slices.Contains(part, bond.B)
	})
}

// narrowIn is the least strength of a cut of a part with at least two places, and one side of such a cut.
// (By Stoer and Wagner: the last place in the order of the strengths to those before it is cut off, and is then put together with the one before it.)
func narrowIn(bonds []impl.Bond, part []int64) (int64, []int64) {
	strength := map[[2]int64]int64{}
	for _, bond := range withinBonds(bonds, part) {
		strength[[2]int64{bond.A, bond.B}] += bond.Strength
		strength[[2]int64{bond.B, bond.A}] += bond.Strength
	}
	groups := map[int64][]int64{}
	for _, place := range part {
		groups[place] = []int64{place}
	}
	least, side := int64(math.MaxInt64), []int64(nil)
	for nodes := slices.Clone(part); len(nodes) > 1; {
		rest, held, before, last := slices.Clone(nodes), map[int64]int64{}, int64(-1), int64(-1)
		for len(rest) > 0 {
			at := 0
			for i, node := range rest {
				if held[node] > held[rest[at]] {
					at = i
				}
			}
			before, last = last, rest[at]
			rest = slices.Delete(rest, at, at+1)
			for _, node := range rest {
				held[node] += strength[[2]int64{last, node}]
			}
		}
		if held[last] < least {
			least, side = held[last], slices.Sorted(slices.Values(groups[last]))
		}
		groups[before] = append(groups[before], groups[last]...)
		nodes = slices.DeleteFunc(nodes, func(node int64) bool { return node == last })
		for _, node := range nodes {
			strength[[2]int64{before, node}] += strength[[2]int64{last, node}]
			strength[[2]int64{node, before}] = strength[[2]int64{before, node}]
		}
	}
	return least, side
}

// firmIn are the groups that are connected by bonds of at least a temperature.
func firmIn(bonds []impl.Bond, count int, temperature int64) [][]int64 {
	firm := slices.DeleteFunc(slices.Clone(bonds), func(bond impl.Bond) bool { return bond.Strength < temperature })
	return bondedIn(firm, count)
}

// stableIn says whether an assembly is stable, and the code that IsStable must return.
func stableIn(bonds []impl.Bond, count int, temperature int64) (bool, int64) {
	groups := firmIn(bonds, count, temperature)
	if len(groups) > 64 {
		return false, impl.ErrFull
	}
	if count <= fewTiles {
		cuts := cutsIn(bonds, count)
		for n := 1; n < len(cuts)-1; n++ {
			if cuts[n] < temperature {
				return false, impl.OK
			}
		}
		return true, impl.OK
	}
	if len(groups) < 2 {
		return true, impl.OK
	}
	numbers := make([]int64, count)
	for i, group := range groups {
		for _, place := range group {
			numbers[place] = int64(i)
		}
	}
	var between []impl.Bond
	for _, bond := range bonds {
		if a, b := numbers[bond.A], numbers[bond.B]; a != b {
			between = append(between, impl.Bond{A: a, B: b, Strength: bond.Strength})
		}
	}
	least, _ := narrowIn(between, numbersBelow(len(groups)))
	return least >= temperature, impl.OK
}

func numbersBelow(count int) []int64 {
	var list []int64
	for n := range int64(count) {
		list = append(list, n)
	}
	return list
}

// brokenIn says what BreakApart must return.
func brokenIn(bonds []impl.Bond, count int, temperature int64) [][]int64 {
	var parts [][]int64
	if count > fewTiles {
		parts = brokenMany(bonds, numbersBelow(count), temperature)
	} else {
		parts = brokenFew(cutsIn(bonds, count), temperature)
	}
	slices.SortFunc(parts, func(a, b []int64) int { return cmp.Compare(a[0], b[0]) })
	return parts
}

// brokenFew are the parts that are stable and not contained in a greater one, of all parts.
func brokenFew(cuts []int64, temperature int64) [][]int64 {
	var stable []int
	for n := len(cuts) - 1; n > 0; n-- {
		holds := true
		// The bonds between two parts leave both of them, and not both together.
		for m := (n - 1) & n; m > 0 && holds; m = (m - 1) & n {
			holds = (cuts[m]+cuts[n&^m]-cuts[n])/2 >= temperature
		}
		if holds {
			stable = append(stable, n)
		}
	}
	var parts [][]int64
	for _, n := range stable {
		greater := slices.ContainsFunc(stable, func(m int) bool { return m != n && m&n == n })
		if !greater {
			parts = append(parts, partIn(n))
		}
	}
	return parts
}

// brokenMany breaks a part at its weakest cut, and so on.
func brokenMany(bonds []impl.Bond, part []int64, temperature int64) [][]int64 {
	if len(part) < 2 {
		return [][]int64{part}
	}
	least, side := narrowIn(bonds, part)
	if least >= temperature {
		return [][]int64{part}
	}
	rest := slices.DeleteFunc(slices.Clone(part), func(place int64) bool { return slices.Contains(side, place) })
	return append(brokenMany(bonds, side, temperature), brokenMany(bonds, rest, temperature)...)
}

// bitsOf is the number whose bits are the places of a part.
func bitsOf(part []int64) int {
	n := 0
	for _, place := range part {
		n |= 1 << place
	}
	return n
}

// sizeOf is the number of places of a cut of few tiles.
func sizeOf(n int) int { return bits.OnesCount(uint(n)) }
