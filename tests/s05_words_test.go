package tests

import (
	"fmt"
	"slices"
	"strings"
	"testing"

	"loop.example/g01081/impl"
)

func TestTextConstants(t *testing.T) {
	if impl.MaxFile != 20000 {
		t.Error("wrong limit", impl.MaxFile)
	}
}

func TestSplitLinesTable(t *testing.T) {
	cases := []struct {
		text  string
		lines []string
	}{
		{"a\n\nb\n", []string{"a", "", "b"}}, {"", nil}, {"\n", []string{""}}, {"\n\n", []string{"", ""}}, {"\n\n\n", []string{"", "", ""}},
		{"a", []string{"a"}}, {"a\n", []string{"a"}}, {"a\n\n", []string{"a", ""}}, {"a\nb", []string{"a", "b"}}, {"a\nb\n", []string{"a", "b"}},
		{"\na", []string{"", "a"}}, {"\na\n", []string{"", "a"}}, {"\n\na", []string{"", "", "a"}}, {"a\n\n\nb", []string{"a", "", "", "b"}},
		{" ", []string{" "}}, {" \n ", []string{" ", " "}}, {" \n", []string{" "}}, {"a \n b", []string{"a ", " b"}},
		{"a\r\nb\r\n", []string{"a\r", "b\r"}}, {"a\rb", []string{"a\rb"}}, {"a\tb\vc\fd\n", []string{"a\tb\vc\fd"}}, {"\x00\n\x00", []string{"\x00", "\x00"}},
		{"\u2028\n\u0085a\u2029", []string{"\u2028", "\u0085a\u2029"}}, {"\xff\n\xe2\n\x80", []string{"\xff", "\xe2", "\x80"}}, {"\\n", []string{"\\n"}},
	}
	for _, c := range cases {
		if got := impl.SplitLines(c.text); !slices.Equal(got, c.lines) || !slices.Equal(linesIn(c.text), c.lines) {
			t.Errorf("SplitLines(%q) is %q, not %q", c.text, got, c.lines)
		}
	}
}

func TestSplitWordsTable(t *testing.T) {
	cases := []struct {
		line  string
		words []string
	}{
		{" a  b", []string{"a", "b"}}, {"", nil}, {" ", nil}, {"     ", nil}, {"a", []string{"a"}}, {" a", []string{"a"}}, {"a ", []string{"a"}}, {"  a  ", []string{"a"}},
		{"a b", []string{"a", "b"}}, {"a   b c ", []string{"a", "b", "c"}}, {"ab cd", []string{"ab", "cd"}}, {"a b a", []string{"a", "b", "a"}},
		{"a\tb", []string{"a\tb"}}, {"\t", []string{"\t"}}, {" \t ", []string{"\t"}}, {"a \t b", []string{"a", "\t", "b"}}, {"a\r", []string{"a\r"}}, {"a\nb c", []string{"a\nb", "c"}}, {"\n", []string{"\n"}}, {"\n \n", []string{"\n", "\n"}},
		{"a\v\f\x00b", []string{"a\v\f\x00b"}}, {"a\u00a0b\u2003c\u3000d", []string{"a\u00a0b\u2003c\u3000d"}}, {"\xff \xe2 \x80", []string{"\xff", "\xe2", "\x80"}}, {"\xc0\xa0 \xe2\x80", []string{"\xc0\xa0", "\xe2\x80"}},
		{"glue a 2", []string{"glue", "a", "2"}}, {". 1 0", []string{".", "1", "0"}}, {"1,0", []string{"1,0"}}, {"1, 0", []string{"1,", "0"}},
	}
	for _, c := range cases {
		if got := impl.SplitWords(c.line); !slices.Equal(got, c.words) || !slices.Equal(wordsIn(c.line), c.words) {
			t.Errorf("SplitWords(%q) is %q, not %q", c.line, got, c.words)
		}
	}
}

// checkSplits compares the lines and the words of a text with what they must be, and puts them together again.
func checkSplits(t *testing.T, text string) {
	t.Helper()
	lines, words := impl.SplitLines(text), impl.SplitWords(text)
	if !slices.Equal(lines, linesIn(text)) {
		t.Fatalf("SplitLines(%s) is %q", shortened(text), lines)
	}
	if !slices.Equal(words, wordsIn(text)) {
		t.Fatalf("SplitWords(%s) is %q", shortened(text), words)
	}
	if again := strings.Join(lines, "\n"); again != text && again+"\n" != text {
		t.Fatalf("the lines of %s are together %s", shortened(text), shortened(again))
	}
	if strings.Join(words, "") != strings.ReplaceAll(text, " ", "") || slices.Contains(words, "") {
		t.Fatalf("the words of %s are %q", shortened(text), words)
	}
}

// TestSplitShortTexts splits all texts of at most seven of five bytes.
func TestSplitShortTexts(t *testing.T) {
	for _, bytes := range sequences([]string{"a", " ", "\n", "\t", "\xff"}, 7) {
		checkSplits(t, strings.Join(bytes, ""))
	}
}

// TestSplitBytes has each byte alone, between letters, between blanks and between newlines: only two of them separate.
func TestSplitBytes(t *testing.T) {
	for c := range 256 {
		piece := string([]byte{byte(c)})
		for _, form := range []string{"%s", "a%sb", " %s ", "\n%s\n", "a %s", "%s\na", "%[1]s%[1]s", "%[1]s %[1]s\n%[1]s"} {
			checkSplits(t, fmt.Sprintf(form, piece))
		}
		lines, words := impl.SplitLines("a"+piece+"b"), impl.SplitWords("a"+piece+"b")
		if (len(lines) == 2) != (c == 10) || (len(words) == 2) != (c == 32) || len(lines)+len(words) > 3 {
			t.Errorf("the byte %d makes the lines %q and the words %q", c, lines, words)
		}
	}
}

// TestSplitLarge has texts that are much longer than those that are read.
func TestSplitLarge(t *testing.T) {
	for _, piece := range []string{"\n", " ", "a", "a\n", "a b\n", " \n", "\u2003", "\xe2"} {
		for _, n := range []int{31, 32, 33, 64, 65, 20000, 20001, 300000} {
			text := strings.Repeat(piece, n)
			lines, words := impl.SplitLines(text), impl.SplitWords(text)
			if !slices.Equal(lines, linesIn(text)) || !slices.Equal(words, wordsIn(text)) {
				t.Errorf("%q, %d times, has %d lines and %d words", piece, n, len(lines), len(words))
			}
		}
	}
}
