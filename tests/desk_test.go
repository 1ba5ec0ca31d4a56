package tests

import (
	"slices"
	"strings"
	"testing"

	"loop.example/formatplans/impl"
)

func TestScanConstants(t *testing.T) {
	if impl.MaxScans != 20 || impl.MaxDesk != 20 {
		t.Errorf("MaxScans = %d, MaxDesk = %d", impl.MaxScans, impl.MaxDesk)
	}
}

func TestRunDeskExamples(t *testing.T) {
	for _, c := range []struct{ line, want string }{
		{"read 5", "5"}, {"read -5", "-5"}, {"read +5", "5"}, {"read 0", "0"}, {"read -0", "0"}, {"read -0.00e5", "0"}, {"read 1.50e2", "150"}, {"read -0.5", "-0.5"}, {"read .5", "0.5"}, {"read 5.", "5"},
		{"read 50%", "0.5"}, {"read -1e-12", "-0.000000000001"}, {"read 1e12", "1000000000000"}, {"read 999999999e12", "999999999000000000000"}, {"read 00012", "12"}, {"read 1E3", "1000"}, {"read 12.3400", "12.34"},
		{"read 1e21", "no"}, {"read 1e-13", "no"}, {"read 1234567891", "no"}, {"read x", "no"}, {"read ", "no"}, {"read -", "no"}, {"read .", "no"}, {"read 1,234", "no"}, {"read @", "no"}, {"read 0x5", "no"},
		{"read", "what"}, {"read 5 ", "what"}, {"read  5", "what"}, {"read  ", "what"}, {"read 5 5", "what"}, {"read @ 5", "what"}, {" read 5", "what"}, {"Read 5", "what"}, {"READ 5", "what"}, {"reads 5", "what"}, {"rea 5", "what"}, {"read5", "what"},
		{"whole @ 5", "[5]"}, {"whole @ -5", "[-5]"}, {"whole @ +5", "[5]"}, {"whole @ -0", "[0]"}, {"whole @ 007", "[7]"}, {"whole 08,d 1234", "[0,001,234]"}, {"whole #x -255", "[-0xff]"}, {"whole +d 5", "[+5]"}, {"whole d 5", "[5]"},
		{"whole *^7 12", "[**12***]"}, {"whole c 65", "[A]"}, {"whole c 32", "[ ]"}, {"whole *<3c 65", "[A**]"}, {"whole , 999999999999", "[999,999,999,999]"}, {"whole @< 5", "[5]"}, {"whole @>3 5", "[@@5]"}, {"whole #b 5", "[0b101]"},
		{"whole c 31", "no"}, {"whole c 127", "no"}, {"whole c -65", "no"}, {"whole q 1", "no"}, {"whole d 1.5", "no"}, {"whole d x", "no"}, {"whole d ", "no"}, {"whole @ ", "no"}, {"whole d 1000000000000", "no"}, {"whole @ 1e3", "no"},
		{"whole x ff", "no"}, {"whole #x 0xff", "no"}, {"whole , 1,234", "no"}, {"whole _d 1_234", "no"}, {"whole s 5", "no"}, {"whole f 5", "no"}, {"whole .2 5", "no"}, {"whole ,x 5", "no"}, {"whole @@ 5", "no"}, {"whole 31 5", "no"}, {"whole d @", "no"},
		{"whole 5", "what"}, {"whole d", "what"}, {"whole", "what"}, {"whole  5", "what"}, {"whole  ", "what"}, {"whole d  5", "what"}, {"whole  d 5", "what"}, {"whole d 5 ", "what"}, {"whole d 1 2", "what"}, {"whole +d +5 d", "what"}, {"whole   5", "what"}, {"wholed 5", "what"}, {" whole d 5", "what"},
		{"real .2f 2.675", "[2.68]"}, {"real @ 1.50", "[1.5]"}, {"real @ -0", "[0]"}, {"real @ 50%", "[0.5]"}, {"real .0% 0.5", "[50%]"}, {"real 010,.1f 1234.56", "[0,001,234.6]"}, {"real e 1500", "[1.500000e+03]"}, {"real G 1e-5", "[1E-05]"}, {"real + 5", "[+5]"}, {"real .0f -0.4", "[0]"},
		{"real d 5", "no"}, {"real s 5", "no"}, {"real .2 5", "no"}, {"real # 5", "no"}, {"real q 5", "no"}, {"real f x", "no"}, {"real f ", "no"}, {"real @ 1e21", "no"}, {"real ,f 1,234", "no"}, {"real c 65", "no"},
		{"real  1", "what"}, {"real 1", "what"}, {"real", "what"}, {"real f", "what"}, {"real f  1", "what"}, {"real f 1 ", "what"}, {"Real f 1", "what"},
		{"text *^9 abc", "[***abc***]"}, {"text @ abc", "[abc]"}, {"text @ ", "[]"}, {"text s ", "[]"}, {"text 3 ", "[   ]"}, {"text .2 abc", "[ab]"}, {"text @ @", "[@]"}, {"text @ 12", "[12]"}, {"text >5.1s xyz", "[    x]"}, {"text @ [no]", "[[no]]"}, {"text .0 abc", "[]"},
		{"text d abc", "no"}, {"text d 5", "no"}, {"text + abc", "no"}, {"text =5 abc", "no"}, {"text 05 abc", "no"}, {"text q abc", "no"}, {"text .10 abc", "no"}, {"text {<5 abc", "no"}, {"text c a", "no"},
		{"text @", "what"}, {"text abc", "what"}, {"text", "what"}, {"text @ a b", "what"}, {"text  abc", "what"}, {"text @  abc", "what"}, {"text @ abc ", "what"}, {"text  @ abc", "what"}, {"text >  5 abc", "what"},
		{"", "what"}, {" ", "what"}, {"  ", "what"}, {"help", "what"}, {"what d 1", "what"}, {"no", "what"}, {"@", "what"}, {"@ @ @", "what"}, {"d 5", "what"}, {"value d 5", "what"}, {"read whole 5", "what"}, {"s s s", "what"}, {"d d 5", "what"}, {" d 5", "what"}, {"\"read 5\"", "what"},
	} {
		if got := impl.RunDesk([]string{c.line}); got != c.want+"\n" {
			t.Errorf("RunDesk(%q) = %q, want %q", c.line, got, c.want)
		}
		if got := answerBy(c.line); got != c.want {
			t.Errorf("answerBy(%q) = %q, want %q", c.line, got, c.want)
		}
	}
}

func TestRunDeskOfLongLines(t *testing.T) {
	for size := range impl.MaxText + 3 {
		for _, start := range []string{"read ", "whole d ", "real @ ", "text @ ", "text .9 ", ""} {
			line := start + strings.Repeat("0", size)
			want := ""
			if len(line) <= impl.MaxText {
				want = answerBy(line) + "\n"
			}
			if got := impl.RunDesk([]string{line}); got != want {
				t.Errorf("RunDesk(%q) = %q, want %q", line, got, want)
			}
		}
	}
}

func TestRunDeskRejects(t *testing.T) {
	lines := slices.Repeat([]string{"read 1"}, impl.MaxDesk)
	if got := impl.RunDesk(lines); got != strings.Repeat("1\n", impl.MaxDesk) {
		t.Errorf("RunDesk of %d lines = %q", len(lines), got)
	}
	for _, count := range []int{1, 2, 1000} {
		if got := impl.RunDesk(slices.Repeat([]string{""}, impl.MaxDesk+count)); got != "" {
			t.Errorf("RunDesk of %d lines = %q", impl.MaxDesk+count, got)
		}
	}
	for _, line := range notTexts() {
		for i := range 3 {
			lines := []string{"read 1", "", "text @ a"}
			lines[i] = line
			if got := impl.RunDesk(lines); got != "" {
				t.Errorf("RunDesk(%q) = %q", lines, got)
			}
		}
		if got := impl.RunDesk([]string{"text @ a" + line}); got != "" {
			t.Errorf("RunDesk of %q = %q", "text @ a"+line, got)
		}
	}
}

// deskLines returns lines of all words, with spaces or none in each place.
func deskLines() []string {
	var lines []string
	spaces := []string{"", " ", "  "}
	for _, word := range []string{"read", "whole", "real", "text", "Text", "other", ""} {
		for _, spec := range []string{"", "@", "d", "c", ".2f", "*^6", "+", "q", "+#x", ".1"} {
			for _, text := range []string{"", "5", "-12.5", "65", "+0", "1e3", "abc", "@", "1000000000000"} {
				for i := range 27 {
					lines = append(lines, word+spaces[i%3]+spec+spaces[i/3%3]+text+spaces[i/9])
				}
			}
		}
	}
	return lines
}

func TestPromise78EachLineHasAnAnswer(t *testing.T) {
	if got := impl.RunDesk(nil) + impl.RunDesk([]string{}); got != "" {
		t.Errorf("RunDesk of no lines = %q", got)
	}
	for lines := range slices.Chunk(deskLines(), impl.MaxDesk) {
		before := slices.Clone(lines)
		want := ""
		for i, line := range lines {
			if got := impl.RunDesk(lines[:i]); got != want || strings.Count(got, "\n") != i {
				t.Fatalf("RunDesk(%q) = %q, want %q", lines[:i], got, want)
			}
			want += answerBy(line) + "\n"
		}
		got := impl.RunDesk(lines)
		if got != want || strings.Count(got, "\n") != len(lines) {
			t.Fatalf("RunDesk(%q) = %q, want %q", lines, got, want)
		}
		if !slices.Equal(lines, before) {
			t.Fatalf("RunDesk changes %q to %q", before, lines)
		}
	}
}
