package tests

import (
	"math"
	"math/big"

	"loop.example/g01081/impl"
)

// edgeNumbers are numbers around every limit of the package and of the integer types a number might be cut down to.
func edgeNumbers() []int64 {
	return []int64{
		0, 1, -1, 2, -2, 3, -3, 4, -4, 5, 9, 10, 11, 12, 59, 60, 61, -59, -60, -61, 255, 256, 257, -255, -256,
		999999937, -999999937, 999999999, -999999999, 1000000000, -1000000000, 1000000001, -1000000001,
		math.MaxInt32, math.MinInt32, 1 << 32, 1<<32 + 1, -1 << 32, 1000000000000000000, -1000000000000000000,
		math.MaxInt64 - 1, math.MaxInt64, math.MinInt64 + 1, math.MinInt64,
	}
}

// edgePoints are all points with two of the edge numbers.
func edgePoints() []impl.Point {
	var points []impl.Point
	for _, x := range edgeNumbers() {
		for _, y := range edgeNumbers() {
			points = append(points, impl.Point{X: x, Y: y})
		}
	}
	return points
}

// validPoints are all valid points, in their order.
func validPoints() []impl.Point {
	var points []impl.Point
	for y := int64(-60); y <= 60; y++ {
		for x := int64(-60); x <= 60; x++ {
			points = append(points, impl.Point{X: x, Y: y})
		}
	}
	return points
}

// isValidFrac says what ValidFrac must return, computed with big numbers.
func isValidFrac(f impl.Frac) bool {
	if f.Num < -1000000000 || f.Num > 1000000000 || f.Den < 1 || f.Den > 1000000000 {
		return false
	}
	divisor := new(big.Int).GCD(nil, nil, new(big.Int).Abs(big.NewInt(f.Num)), big.NewInt(f.Den))
	return divisor.Cmp(big.NewInt(1)) == 0
}

// edgeFracs are all pairs of edge numbers as fractions, most of which are not valid.
func edgeFracs() []impl.Frac {
	var fracs []impl.Frac
	for _, num := range edgeNumbers() {
		for _, den := range edgeNumbers() {
			fracs = append(fracs, impl.Frac{Num: num, Den: den})
		}
	}
	return fracs
}

// validFracs are the valid ones of edgeFracs, some small ones and some of all sizes.
func validFracs() []impl.Frac {
	fracs := edgeFracs()
	for num := int64(-6); num <= 6; num++ {
		for den := int64(1); den <= 6; den++ {
			fracs = append(fracs, impl.Frac{Num: num, Den: den})
		}
	}
	seed := uint64(1)
	for i := 0; i < 200; i++ {
		num := nextNumber(&seed, 1+i%9)
		fracs = append(fracs, impl.Frac{Num: num, Den: 1 + nextNumber(&seed, 1+i/9%9)}, impl.Frac{Num: -num, Den: 30030})
	}
	var valid []impl.Frac
	for _, f := range fracs {
		if isValidFrac(f) {
			valid = append(valid, f)
		}
	}
	return valid
}

// nextNumber returns a number of at most that many digits from a sequence that is the same in every run.
func nextNumber(seed *uint64, digits int) int64 {
	*seed = *seed*6364136223846793005 + 1442695040888963407
	limit := uint64(1)
	for ; digits > 0; digits-- {
		limit *= 10
	}
	return int64((*seed >> 20) % limit)
}

// invalidFracs are fractions that break exactly one of the rules, or several.
func invalidFracs() []impl.Frac {
	return []impl.Frac{
		{}, {Num: 1}, {Num: -1}, {Den: 2}, {Den: -1}, {Den: 1000000000},
		{Num: 2, Den: 4}, {Num: -2, Den: 4}, {Num: 7, Den: 7}, {Num: -7, Den: 7}, {Num: 1000000000, Den: 1000000000}, {Num: 9, Den: 3},
		{Num: 1, Den: -1}, {Num: -1, Den: -2}, {Num: 1, Den: -2},
		{Num: 1000000001, Den: 1}, {Num: -1000000001, Den: 1}, {Num: 1, Den: 1000000001}, {Num: -1, Den: 1000000001},
		{Num: 1<<32 + 1, Den: 1}, {Num: 1, Den: 1<<32 + 1},
		{Num: math.MaxInt64, Den: 1}, {Num: math.MinInt64, Den: 1}, {Num: 1, Den: math.MaxInt64}, {Num: 1, Den: math.MinInt64},
		{Num: math.MinInt64, Den: math.MinInt64}, {Num: math.MinInt64, Den: -1}, {Num: math.MinInt64, Den: 0}, {Num: math.MaxInt64, Den: math.MaxInt64},
	}
}
