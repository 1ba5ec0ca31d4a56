package tests

import (
	"strings"
	"testing"

	"loop.example/formatplans/impl"
)

func TestValidText(t *testing.T) {
	for _, s := range sampleTexts() {
		if !impl.ValidText(s) {
			t.Errorf("ValidText(%q) = false", s)
		}
	}
	for _, s := range notTexts() {
		if impl.ValidText(s) {
			t.Errorf("ValidText(%q) = true", s)
		}
	}
}

func TestValidTextOfAllBytes(t *testing.T) {
	for b := range 256 {
		s := string([]byte{byte(b)})
		want := ' ' <= b && b <= '~'
		for _, text := range []string{s, s + "a", "a" + s, "a" + s + "a", strings.Repeat(s, impl.MaxText), strings.Repeat("a", impl.MaxText-1) + s} {
			if impl.ValidText(text) != want {
				t.Errorf("ValidText(%q) = %v", text, !want)
			}
		}
	}
}

func TestValidTextOfAllLengths(t *testing.T) {
	for size := range 3 * impl.MaxText {
		for _, b := range []string{" ", "~", "a"} {
			if impl.ValidText(strings.Repeat(b, size)) != (size <= 80) {
				t.Errorf("ValidText of %d times %q = %v", size, b, size > 80)
			}
		}
	}
}

func TestPadTextExamples(t *testing.T) {
	for _, c := range []struct {
		text  string
		width int
		fill  string
		align int
		want  string
	}{
		{"", 0, "*", impl.AlLeft, ""},
		{"", 1, "*", impl.AlLeft, "*"},
		{"", 3, "*", impl.AlRight, "***"},
		{"", 3, "*", impl.AlCentre, "***"},
		{"", impl.MaxWidth, " ", impl.AlCentre, strings.Repeat(" ", 30)},
		{"ab", 0, "*", impl.AlLeft, "ab"},
		{"ab", 2, "*", impl.AlRight, "ab"},
		{"ab", 3, "*", impl.AlLeft, "ab*"},
		{"ab", 3, "*", impl.AlRight, "*ab"},
		{"ab", 3, "*", impl.AlCentre, "ab*"},
		{"ab", 4, "*", impl.AlCentre, "*ab*"},
		{"ab", 5, "*", impl.AlCentre, "*ab**"},
		{"ab", 6, "*", impl.AlCentre, "**ab**"},
		{"ab", 4, "~", impl.AlLeft, "ab~~"},
		{"ab", 4, "{", impl.AlRight, "{{ab"},
		{"ab", 5, "}", impl.AlCentre, "}ab}}"},
		{"-5", 4, "0", impl.AlRight, "00-5"},
		{"**", 4, "*", impl.AlLeft, "****"},
		{" a", 4, " ", impl.AlLeft, " a  "},
		{"a", impl.MaxWidth, "b", impl.AlRight, strings.Repeat("b", 29) + "a"},
		{strings.Repeat("a", impl.MaxText), impl.MaxWidth, "b", impl.AlRight, strings.Repeat("a", 80)},
	} {
		if got := impl.PadText(c.text, c.width, c.fill, c.align); got != c.want {
			t.Errorf("PadText(%q, %d, %q, %d) = %q, want %q", c.text, c.width, c.fill, c.align, got, c.want)
		}
	}
}

// paddings has the places of the text in a padded one: where it begins if so many bytes are missing.
var paddings = map[int]func(missing int) int{
	impl.AlLeft:   func(missing int) int { return 0 },
	impl.AlRight:  func(missing int) int { return missing },
	impl.AlCentre: func(missing int) int { return missing / 2 },
}

func TestPromise41PaddingIsAtTheSides(t *testing.T) {
	for _, text := range edgeTexts {
		for width := 0; width <= impl.MaxWidth; width++ {
			for _, fill := range textFills {
				for align, place := range paddings {
					got := impl.PadText(text, width, fill, align)
					if want := filledBy(text, width, fill, align); got != want {
						t.Fatalf("PadText(%q, %d, %q, %d) = %q, want %q", text, width, fill, align, got, want)
					}
					missing := max(width-len(text), 0)
					at := place(missing)
					if len(got) != max(width, len(text)) || got[at:at+len(text)] != text || strings.Trim(got[:at]+got[at+len(text):], fill) != "" {
						t.Fatalf("PadText(%q, %d, %q, %d) = %q", text, width, fill, align, got)
					}
				}
			}
		}
	}
}

func TestPadTextOfAllFills(t *testing.T) {
	for b := range 256 {
		fill, want := string([]byte{byte(b)}), ""
		if ' ' <= b && b <= '~' {
			want = fill + "ab" + fill
		}
		if got := impl.PadText("ab", 4, fill, impl.AlCentre); got != want {
			t.Errorf("PadText(ab, 4, %q) = %q, want %q", fill, got, want)
		}
	}
}

func TestPadTextRejects(t *testing.T) {
	check := func(text string, width int, fill string, align int) {
		t.Helper()
		if got := impl.PadText(text, width, fill, align); got != "" {
			t.Errorf("PadText(%q, %d, %q, %d) = %q", text, width, fill, align, got)
		}
	}
	for _, align := range sides {
		for _, text := range notTexts() {
			check(text, 0, "*", align)
			check(text, impl.MaxWidth, "*", align)
		}
		for _, width := range outOfRange(0, impl.MaxWidth) {
			check("ab", width, "*", align)
			check(strings.Repeat("a", impl.MaxText), width, "*", align)
		}
		for _, fill := range notFills {
			check("ab", 0, fill, align)
			check("ab", 5, fill, align)
		}
	}
	for _, align := range notSides {
		check("ab", 0, "*", align)
		check("ab", 5, "*", align)
	}
}

func TestStripTextExamples(t *testing.T) {
	for _, c := range []struct {
		text, fill string
		align      int
		want       string
	}{
		{"", "*", impl.AlLeft, ""},
		{"", "*", impl.AlCentre, ""},
		{"***", "*", impl.AlLeft, ""},
		{"***", "*", impl.AlRight, ""},
		{"***", "*", impl.AlCentre, ""},
		{"*", "*", impl.AlCentre, ""},
		{"**a**", "*", impl.AlLeft, "**a"},
		{"**a**", "*", impl.AlRight, "a**"},
		{"**a**", "*", impl.AlCentre, "a"},
		{"*a*b*", "*", impl.AlCentre, "a*b"},
		{"**a**", " ", impl.AlCentre, "**a**"},
		{" *a* ", "*", impl.AlCentre, " *a* "},
		{"~a~~", "~", impl.AlCentre, "a"},
		{"{a}", "{", impl.AlCentre, "a}"},
		{"00100", "0", impl.AlLeft, "001"},
		{"00100", "0", impl.AlRight, "100"},
		{"a-z", "-", impl.AlCentre, "a-z"},
		{strings.Repeat(" ", impl.MaxText), " ", impl.AlRight, ""},
		{strings.Repeat(" ", impl.MaxText-1) + "a", " ", impl.AlRight, "a"},
	} {
		if got := impl.StripText(c.text, c.fill, c.align); got != c.want {
			t.Errorf("StripText(%q, %q, %d) = %q, want %q", c.text, c.fill, c.align, got, c.want)
		}
	}
}

func TestPromise42PaddingIsStripped(t *testing.T) {
	for _, text := range sampleTexts() {
		for _, fill := range textFills {
			for _, align := range sides {
				bare := impl.StripText(text, fill, align)
				if want := strippedBy(text, fill, align); bare != want {
					t.Fatalf("StripText(%q, %q, %d) = %q, want %q", text, fill, align, bare, want)
				}
				if align != impl.AlRight && strings.HasSuffix(bare, fill) || align != impl.AlLeft && strings.HasPrefix(bare, fill) {
					t.Fatalf("StripText(%q, %q, %d) = %q", text, fill, align, bare)
				}
				for _, width := range []int{0, 1, 4, 5, 6, 7, impl.MaxWidth} {
					padded := impl.PadText(bare, width, fill, align)
					if got := impl.StripText(padded, fill, align); got != bare {
						t.Fatalf("StripText(%q, %q, %d) = %q, want %q", padded, fill, align, got, bare)
					}
				}
			}
		}
	}
}

func TestStripTextRejects(t *testing.T) {
	check := func(text string, fill string, align int) {
		t.Helper()
		if got := impl.StripText(text, fill, align); got != "" {
			t.Errorf("StripText(%q, %q, %d) = %q", text, fill, align, got)
		}
	}
	for _, align := range sides {
		for _, text := range notTexts() {
			check(text, " ", align)
			check(text, "*", align)
		}
		for _, fill := range notFills {
			check("*ab*", fill, align)
		}
	}
	for _, align := range notSides {
		check("*ab*", "*", align)
	}
}

func TestPromise28FillsAreTakenOff(t *testing.T) {
	all := sampleWholes()
	eachWholeSpec(func(s impl.Spec) {
		align, fill := impl.AlignFor(s, impl.VaInt), impl.FillFor(s)
		if align == impl.AlInside {
			return
		}
		bare := s
		bare.Width = 0
		for _, n := range all {
			// This is nothing for what the Type c does not have.
			text := impl.FormatWhole(bare, n)
			if text == "" {
				continue
			}
			got := impl.FormatWhole(s, n)
			if want := impl.PadText(text, s.Width, fill, align); got != want || !strings.Contains(want, text) {
				t.Fatalf("FormatWhole(%q, %d) = %q, but PadText of %q = %q", impl.SpecText(s), n, got, text, want)
			}
			if a, b := impl.StripText(got, fill, align), impl.StripText(text, fill, align); a != b {
				t.Fatalf("FormatWhole(%q, %d) = %q without fills is %q, want %q", impl.SpecText(s), n, got, a, b)
			}
		}
	})
}

func TestPromise28FillsThatNoNumberHas(t *testing.T) {
	for _, align := range sides {
		for _, fill := range []string{"*", "~", "!", "'"} {
			for width := 0; width <= impl.MaxWidth; width++ {
				for _, typ := range []string{"", "d", "b", "o", "x", "X"} {
					s := impl.Spec{Fill: fill, Align: align, Sign: impl.SiPlus, Alt: true, Width: width, Prec: -1, Type: typ}
					bare := s
					bare.Width = 0
					for _, n := range []int{0, 7, -123, 4096, -impl.MaxWhole} {
						if got, want := impl.StripText(impl.FormatWhole(s, n), fill, align), impl.FormatWhole(bare, n); got != want {
							t.Fatalf("FormatWhole(%q, %d) without fills = %q, want %q", impl.SpecText(s), n, got, want)
						}
					}
				}
			}
		}
	}
}

func TestPromise40TextsHaveBeginnings(t *testing.T) {
	for _, s := range sampleTexts() {
		for half := s; half != ""; half = half[:len(half)/2] {
			if !impl.ValidText(half[:len(half)/2]) {
				t.Errorf("ValidText(%q) = false", half[:len(half)/2])
			}
		}
	}
}
