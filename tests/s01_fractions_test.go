package tests

import (
	"math/big"
	"testing"

	"loop.example/g01081/impl"
)

type fracFunc func(a, b impl.Frac) (impl.Frac, int64)

func ratOf(f impl.Frac) *big.Rat {
	return big.NewRat(f.Num, f.Den)
}

// fracOf says which valid fraction stands for a number, or that there is none.
func fracOf(r *big.Rat) (impl.Frac, int64) {
	if r.Num().IsInt64() && r.Denom().IsInt64() {
		if f := (impl.Frac{Num: r.Num().Int64(), Den: r.Denom().Int64()}); isValidFrac(f) {
			return f, impl.OK
		}
	}
	return impl.Frac{}, impl.ErrFull
}

func checkFrac(t *testing.T, what string, a, b, got impl.Frac, code int64, want impl.Frac, wantCode int64) {
	t.Helper()
	if got != want || code != wantCode {
		t.Errorf("%s(%v, %v) is %v, %d, not %v, %d", what, a, b, got, code, want, wantCode)
	}
}

func TestValidFrac(t *testing.T) {
	for _, f := range append(edgeFracs(), validFracs()...) {
		if impl.ValidFrac(f) != isValidFrac(f) {
			t.Errorf("ValidFrac(%v) is %t", f, !isValidFrac(f))
		}
	}
	for _, f := range invalidFracs() {
		if impl.ValidFrac(f) {
			t.Errorf("ValidFrac(%v) is true", f)
		}
	}
	for _, f := range []impl.Frac{{Den: 1}, {Num: 1, Den: 1}, {Num: -1, Den: 1}, {Num: -1000000000, Den: 1}, {Num: 1000000000, Den: 999999999}, {Num: 1, Den: 1000000000}} {
		if !impl.ValidFrac(f) {
			t.Errorf("ValidFrac(%v) is false", f)
		}
	}
}

func TestMakeFrac(t *testing.T) {
	pairs := edgeFracs()
	for num := int64(-30); num <= 30; num++ {
		for den := int64(-30); den <= 30; den++ {
			pairs = append(pairs, impl.Frac{Num: num, Den: den})
		}
	}
	for _, p := range pairs {
		want, wantCode := impl.Frac{}, int64(impl.ErrRange)
		if p.Num >= -1000000000 && p.Num <= 1000000000 && p.Den >= -1000000000 && p.Den <= 1000000000 && p.Den != 0 {
			want, wantCode = fracOf(ratOf(p))
		}
		if got, code := impl.MakeFrac(p.Num, p.Den); got != want || code != wantCode {
			t.Errorf("MakeFrac(%d, %d) is %v, %d", p.Num, p.Den, got, code)
		}
	}
}

func TestMakeFracTable(t *testing.T) {
	cases := []struct {
		num, den int64
		want     impl.Frac
		code     int64
	}{
		{4, -6, impl.Frac{Num: -2, Den: 3}, impl.OK},
		{-4, -6, impl.Frac{Num: 2, Den: 3}, impl.OK},
		{0, -1000000000, impl.Frac{Den: 1}, impl.OK},
		{1000000000, -1000000000, impl.Frac{Num: -1, Den: 1}, impl.OK},
		{-1000000000, 999999999, impl.Frac{Num: -1000000000, Den: 999999999}, impl.OK},
		{1000000001, 1, impl.Frac{}, impl.ErrRange},
		{-1000000001, 1, impl.Frac{}, impl.ErrRange},
		{1, 1000000001, impl.Frac{}, impl.ErrRange},
		{1, -1000000001, impl.Frac{}, impl.ErrRange},
		{2000000000, 2000000000, impl.Frac{}, impl.ErrRange},
		{0, 0, impl.Frac{}, impl.ErrRange},
		{5, 0, impl.Frac{}, impl.ErrRange},
	}
	for _, c := range cases {
		if got, code := impl.MakeFrac(c.num, c.den); got != c.want || code != c.code {
			t.Errorf("MakeFrac(%d, %d) is %v, %d", c.num, c.den, got, code)
		}
	}
}

// TestFracArithmetic compares all results for many pairs, also those that do not fit, with those of big numbers.
func TestFracArithmetic(t *testing.T) {
	fracs := validFracs()
	full := map[string]int{}
	for _, a := range fracs {
		for _, b := range fracs {
			x, y := ratOf(a), ratOf(b)
			want, wantCode := fracOf(new(big.Rat).Add(x, y))
			got, code := impl.AddFrac(a, b)
			checkFrac(t, "AddFrac", a, b, got, code, want, wantCode)
			full["AddFrac"] += int(wantCode)

			want, wantCode = fracOf(new(big.Rat).Mul(x, y))
			got, code = impl.MulFrac(a, b)
			checkFrac(t, "MulFrac", a, b, got, code, want, wantCode)
			full["MulFrac"] += int(wantCode)

			want, wantCode = impl.Frac{}, impl.ErrRange
			if y.Sign() != 0 {
				want, wantCode = fracOf(new(big.Rat).Quo(x, y))
				full["DivFrac"] += int(wantCode)
			}
			got, code = impl.DivFrac(a, b)
			checkFrac(t, "DivFrac", a, b, got, code, want, wantCode)

			if order, code := impl.CompareFrac(a, b); order != int64(x.Cmp(y)) || code != impl.OK {
				t.Errorf("CompareFrac(%v, %v) is %d, %d", a, b, order, code)
			}
		}
	}
	for _, name := range []string{"AddFrac", "MulFrac", "DivFrac"} {
		if full[name] == 0 {
			t.Errorf("no pair for which the result of %s does not fit", name)
		}
	}
}

// TestFracFits has results at the limits and just beyond them, and sums whose parts do not fit though they themselves do.
func TestFracFits(t *testing.T) {
	const most = 1000000000
	cases := []struct {
		what string
		call fracFunc
		a, b impl.Frac
		want impl.Frac
		code int64
	}{
		{"AddFrac", impl.AddFrac, impl.Frac{Num: 1, Den: 999999937}, impl.Frac{Num: 1, Den: 2}, impl.Frac{}, impl.ErrFull},
		{"AddFrac", impl.AddFrac, impl.Frac{Num: most - 1, Den: 1}, impl.Frac{Num: 1, Den: 1}, impl.Frac{Num: most, Den: 1}, impl.OK},
		{"AddFrac", impl.AddFrac, impl.Frac{Num: most, Den: 1}, impl.Frac{Num: 1, Den: 1}, impl.Frac{}, impl.ErrFull},
		{"AddFrac", impl.AddFrac, impl.Frac{Num: -most, Den: 1}, impl.Frac{Num: -1, Den: 1}, impl.Frac{}, impl.ErrFull},
		{"AddFrac", impl.AddFrac, impl.Frac{Num: 1, Den: most}, impl.Frac{Num: 1, Den: most}, impl.Frac{Num: 1, Den: most / 2}, impl.OK},
		{"AddFrac", impl.AddFrac, impl.Frac{Num: 1, Den: 999999937}, impl.Frac{Num: -1, Den: 999999937}, impl.Frac{Den: 1}, impl.OK},
		{"AddFrac", impl.AddFrac, impl.Frac{Num: most, Den: 999999999}, impl.Frac{Num: most - 2, Den: 999999999}, impl.Frac{Num: 2, Den: 1}, impl.OK},
		{"AddFrac", impl.AddFrac, impl.Frac{Num: most, Den: 1}, impl.Frac{Num: -1, Den: most}, impl.Frac{}, impl.ErrFull},
		{"MulFrac", impl.MulFrac, impl.Frac{Num: most, Den: 1}, impl.Frac{Num: 1, Den: most}, impl.Frac{Num: 1, Den: 1}, impl.OK},
		{"MulFrac", impl.MulFrac, impl.Frac{Num: most / 2, Den: 1}, impl.Frac{Num: 2, Den: 1}, impl.Frac{Num: most, Den: 1}, impl.OK},
		{"MulFrac", impl.MulFrac, impl.Frac{Num: most, Den: 1}, impl.Frac{Num: most, Den: 1}, impl.Frac{}, impl.ErrFull},
		{"MulFrac", impl.MulFrac, impl.Frac{Num: 1, Den: most / 2}, impl.Frac{Num: 1, Den: 2}, impl.Frac{Num: 1, Den: most}, impl.OK},
		{"MulFrac", impl.MulFrac, impl.Frac{Num: 1, Den: most}, impl.Frac{Num: -1, Den: 2}, impl.Frac{}, impl.ErrFull},
		{"MulFrac", impl.MulFrac, impl.Frac{Den: 1}, impl.Frac{Num: -1, Den: most}, impl.Frac{Den: 1}, impl.OK},
		{"DivFrac", impl.DivFrac, impl.Frac{Num: most, Den: 1}, impl.Frac{Num: -1, Den: most}, impl.Frac{}, impl.ErrFull},
		{"DivFrac", impl.DivFrac, impl.Frac{Num: 1, Den: most}, impl.Frac{Num: most, Den: 1}, impl.Frac{}, impl.ErrFull},
		{"DivFrac", impl.DivFrac, impl.Frac{Num: most, Den: 1}, impl.Frac{Num: -most, Den: 1}, impl.Frac{Num: -1, Den: 1}, impl.OK},
		{"DivFrac", impl.DivFrac, impl.Frac{Num: -1, Den: most}, impl.Frac{Num: -1, Den: most}, impl.Frac{Num: 1, Den: 1}, impl.OK},
		{"DivFrac", impl.DivFrac, impl.Frac{Den: 1}, impl.Frac{Num: -most, Den: 1}, impl.Frac{Den: 1}, impl.OK},
	}
	for _, c := range cases {
		got, code := c.call(c.a, c.b)
		checkFrac(t, c.what, c.a, c.b, got, code, c.want, c.code)
	}
}

// TestFracInvalid has an invalid argument on either side, also where the result would not fit or b would stand for 0.
func TestFracInvalid(t *testing.T) {
	valid := []impl.Frac{{Den: 1}, {Num: 1, Den: 2}, {Num: 1000000000, Den: 1}, {Num: -1, Den: 999999937}}
	calls := map[string]fracFunc{"AddFrac": impl.AddFrac, "MulFrac": impl.MulFrac, "DivFrac": impl.DivFrac}
	for _, f := range invalidFracs() {
		for _, g := range append(invalidFracs(), valid...) {
			for what, call := range calls {
				got, code := call(f, g)
				checkFrac(t, what, f, g, got, code, impl.Frac{}, impl.ErrInvalid)
				got, code = call(g, f)
				checkFrac(t, what, g, f, got, code, impl.Frac{}, impl.ErrInvalid)
			}
			if order, code := impl.CompareFrac(f, g); order != 0 || code != impl.ErrInvalid {
				t.Errorf("CompareFrac(%v, %v) is %d, %d", f, g, order, code)
			}
			if order, code := impl.CompareFrac(g, f); order != 0 || code != impl.ErrInvalid {
				t.Errorf("CompareFrac(%v, %v) is %d, %d", g, f, order, code)
			}
		}
	}
}

func TestDivFracByZero(t *testing.T) {
	for _, a := range validFracs() {
		got, code := impl.DivFrac(a, impl.Frac{Den: 1})
		checkFrac(t, "DivFrac", a, impl.Frac{Den: 1}, got, code, impl.Frac{}, impl.ErrRange)
	}
	got, code := impl.DivFrac(impl.Frac{Num: 1, Den: 2}, impl.Frac{Den: 2})
	checkFrac(t, "DivFrac", impl.Frac{Num: 1, Den: 2}, impl.Frac{Den: 2}, got, code, impl.Frac{}, impl.ErrInvalid)
}

func TestFracText(t *testing.T) {
	cases := map[impl.Frac]string{
		{Num: -2, Den: 3}: "-2/3", {Num: 7, Den: 1}: "7", {Num: -7, Den: 1}: "-7", {Den: 1}: "0", {Num: 1, Den: 1000000000}: "1/1000000000",
		{Num: -1000000000, Den: 999999999}: "-1000000000/999999999", {Num: 1000000000, Den: 1}: "1000000000",
	}
	for f, want := range cases {
		if got := impl.FracText(f); got != want {
			t.Errorf("FracText(%v) is %q", f, got)
		}
	}
	for _, f := range validFracs() {
		if got, want := impl.FracText(f), ratOf(f).RatString(); got != want {
			t.Errorf("FracText(%v) is %q, not %q", f, got, want)
		}
	}
	for _, f := range append(edgeFracs(), invalidFracs()...) {
		if got := impl.FracText(f); got != "" && !isValidFrac(f) {
			t.Errorf("FracText(%v) is %q", f, got)
		}
	}
}
