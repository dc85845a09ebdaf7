package tests

import (
	"math"
	"math/big"
	"strings"
	"testing"

	"loop.example/g01081/impl"
)

func TestConstants(t *testing.T) {
	codes := []int64{impl.OK, impl.ErrInvalid, impl.ErrRange, impl.ErrNotFound, impl.ErrFull, impl.ErrState, impl.ErrSyntax, impl.ErrClash, impl.ErrBudget, impl.ErrFormat, impl.ErrProof}
	for i, code := range codes {
		if code != int64(i) {
			t.Errorf("code %d is %d", i, code)
		}
	}
	for i, dir := range []int64{impl.DiNorth, impl.DiEast, impl.DiSouth, impl.DiWest} {
		if dir != int64(i) {
			t.Errorf("direction %d is %d", i, dir)
		}
	}
	if impl.MaxName != 12 || impl.MaxCoord != 60 || impl.MaxFrac != 1000000000 {
		t.Error("wrong limits", impl.MaxName, impl.MaxCoord, impl.MaxFrac)
	}
}

func TestCodeName(t *testing.T) {
	names := []string{"ok", "invalid", "range", "notfound", "full", "state", "syntax", "clash", "budget", "format", "proof"}
	for code, name := range names {
		if got := impl.CodeName(int64(code)); got != name {
			t.Errorf("CodeName(%d) is %q, not %q", code, got, name)
		}
	}
	for _, code := range edgeNumbers() {
		if code < 0 || code > 10 {
			if got := impl.CodeName(code); got != "" {
				t.Errorf("CodeName(%d) is %q", code, got)
			}
		}
	}
}

func TestIsNameTable(t *testing.T) {
	for _, s := range []string{"a", "z", "A", "Z", "carry_0", "a_", "a__", "A9", "abcdefghijkl", "Z23456789012", "a___________"} {
		if !impl.IsName(s) {
			t.Errorf("IsName(%q) is false", s)
		}
	}
	wrong := []string{
		"", "0carry", "_a", "_", "9", "-", "abcdefghijklm", "a234567890123", strings.Repeat("a", 24), strings.Repeat("a", 256+1), strings.Repeat("a", 1<<16+1),
		"a b", " a", "a ", "a\n", "a\x00", "\x00", "a-b", "a.b", "a\xff", "\xff", "\u00e9", "a\u00e9", "\u00e9a", "\uff42", "a\uff42", "a\u0663", "\u00aa", "\u212a", "a\u212a",
	}
	for _, s := range wrong {
		if impl.IsName(s) {
			t.Errorf("IsName(%q) is true", s)
		}
	}
}

// TestIsNameBytes tries every byte at every place of a name of every length.
func TestIsNameBytes(t *testing.T) {
	for length := 1; length <= 13; length++ {
		for place := 0; place < length; place++ {
			for c := 0; c < 256; c++ {
				s := []byte(strings.Repeat("x", length))
				s[place] = byte(c)
				letter := c >= 'a' && c <= 'z' || c >= 'A' && c <= 'Z'
				inner := letter || c >= '0' && c <= '9' || c == '_'
				want := length <= 12 && (letter || place > 0 && inner)
				if impl.IsName(string(s)) != want {
					t.Errorf("IsName(%q) is not %t", s, want)
				}
			}
		}
	}
}

// decimalNumbers are the edge numbers, all small numbers, and those around every change of length.
func decimalNumbers() []int64 {
	numbers := edgeNumbers()
	for n := int64(-2000); n <= 2000; n++ {
		numbers = append(numbers, n)
	}
	for n := int64(1); n <= math.MaxInt64/10; n *= 10 {
		numbers = append(numbers, n-1, n, n+1, -n-1, -n, -n+1)
	}
	return numbers
}

func TestDecimal(t *testing.T) {
	cases := map[int64]string{
		0: "0", 7: "7", -7: "-7", 10: "10", -120: "-120", 1000000000: "1000000000", 1000000001: "1000000001", -1000000001: "-1000000001",
		math.MaxInt64: "9223372036854775807", math.MinInt64: "-9223372036854775808",
	}
	for n, want := range cases {
		if got := impl.Decimal(n); got != want {
			t.Errorf("Decimal(%d) is %q, not %q", n, got, want)
		}
	}
	for _, n := range decimalNumbers() {
		if got, want := impl.Decimal(n), big.NewInt(n).String(); got != want {
			t.Errorf("Decimal(%d) is %q", n, got)
		}
	}
}

func TestReadDecimalOfDecimal(t *testing.T) {
	for _, n := range decimalNumbers() {
		within := n >= -1000000000 && n <= 1000000000
		want := n
		if !within {
			want = 0
		}
		if got, ok := impl.ReadDecimal(big.NewInt(n).String()); got != want || ok != within {
			t.Errorf("ReadDecimal of %d is %d, %t", n, got, ok)
		}
	}
}

func TestReadDecimalRejects(t *testing.T) {
	wrong := []string{
		"", "-", "+", "--", "--1", "-+1", "+1", "+0", "-0", "00", "-00", "01", "-01", "012", "-012", "0012", "000000000000",
		" 1", "1 ", " ", "1\n", "\t1", "1\x00", "\x001", "1.0", "1.", ".1", "1e3", "1E3", "0x10", "0b1", "0o7", "1_000", "1,000", "1-", "1-1", "a", "1a", "a1",
		"\u0663", "\uff11", "\u22121", "\xff", "1000000001", "-1000000001", "10000000000", "-10000000000", "01000000000", "+1000000000",
		"4294967297", "18446744073709551617", "-18446744073709551615", "9223372036854775807", "9223372036854775808", "-9223372036854775808", "-9223372036854775809",
		strings.Repeat("0", 1000), strings.Repeat("1", 1000), "-" + strings.Repeat("9", 1000), strings.Repeat("0", 1000) + "1",
	}
	for _, s := range wrong {
		if n, ok := impl.ReadDecimal(s); n != 0 || ok {
			t.Errorf("ReadDecimal(%q) is %d, %t", s, n, ok)
		}
	}
}

// TestReadDecimalShort reads every text of up to four bytes of an alphabet, and expects just the decimal forms among them.
func TestReadDecimalShort(t *testing.T) {
	forms := map[string]int64{}
	for n := int64(-999); n <= 9999; n++ {
		forms[big.NewInt(n).String()] = n
	}
	texts := []string{""}
	for start := 0; len(texts[start]) < 4; start++ {
		for _, c := range "-+0129_ .x" {
			texts = append(texts, texts[start]+string(c))
		}
	}
	for _, s := range texts {
		want, wantOK := forms[s]
		if n, ok := impl.ReadDecimal(s); n != want || ok != wantOK {
			t.Errorf("ReadDecimal(%q) is %d, %t", s, n, ok)
		}
	}
}
