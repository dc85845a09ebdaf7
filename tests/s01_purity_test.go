package tests

import (
	"fmt"
	"strings"
	"testing"

	"loop.example/g01081/impl"
)

// basicsCalls are calls of every function of chapter 1 for ordinary, extreme and invalid arguments; each returns a text of its results.
func basicsCalls() []func() string {
	var calls []func() string
	add := func(call func() string) { calls = append(calls, call) }
	for _, n := range edgeNumbers() {
		add(func() string { return impl.CodeName(n) })
		add(func() string { return impl.Decimal(n) })
		add(func() string { return impl.DirName(n) })
		add(func() string { return fmt.Sprint(impl.Opposite(n)) })
	}
	for _, s := range basicsTexts() {
		add(func() string { return fmt.Sprint(impl.IsName(s)) })
		add(func() string { return fmt.Sprint(impl.ReadDecimal(s)) })
		add(func() string { return fmt.Sprint(impl.ReadPoint(s)) })
	}
	points := edgePoints()
	for i, p := range points {
		q := points[(i*7+1)%len(points)]
		add(func() string { return fmt.Sprint(impl.ValidPoint(p)) })
		add(func() string { return impl.PointText(p) })
		add(func() string { return fmt.Sprint(impl.LessPoint(p, q)) })
		add(func() string { return fmt.Sprint(impl.StepPoint(p, q.X)) })
		add(func() string { return fmt.Sprint(impl.StepPoint(p, int64(i%4))) })
		add(func() string { return fmt.Sprint(impl.DirBetween(p, q)) })
	}
	fracs := append(append(edgeFracs(), invalidFracs()...), validFracs()...)
	for i, f := range fracs {
		for _, g := range []impl.Frac{fracs[(i*7+1)%len(fracs)], fracs[len(fracs)-1-i/2], f} {
			add(func() string { return fmt.Sprint(impl.AddFrac(f, g)) })
			add(func() string { return fmt.Sprint(impl.MulFrac(f, g)) })
			add(func() string { return fmt.Sprint(impl.DivFrac(f, g)) })
			add(func() string { return fmt.Sprint(impl.CompareFrac(f, g)) })
		}
		add(func() string { return fmt.Sprint(impl.ValidFrac(f)) })
		add(func() string { return fmt.Sprint(impl.MakeFrac(f.Num, f.Den)) })
		add(func() string { return impl.FracText(f) })
	}
	return calls
}

func basicsTexts() []string {
	texts := []string{"", "a", "carry_0", "0carry", "abcdefghijklm", "12", "-12", "012", "-0", "-", "3,-2", "61,0", ",", ",,", "1,2,3", "\xff\xfe", "\x00", "\u00e9"}
	for _, c := range []string{"a", "0", "9", "-", ",", "\x00", "\xff"} {
		texts = append(texts, strings.Repeat(c, 12), strings.Repeat(c, 13), strings.Repeat(c, 100000))
	}
	return texts
}

// TestBasicsPure makes all calls again.
func TestBasicsPure(t *testing.T) {
	checkPure(t, basicsCalls())
}
