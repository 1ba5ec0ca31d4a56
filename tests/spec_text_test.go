package tests

import (
	"strings"
	"testing"

	"loop.example/formatplans/impl"
)

func TestSpecConstants(t *testing.T) {
	got := []int{
		impl.AlNone, impl.AlLeft, impl.AlRight, impl.AlCentre, impl.AlInside,
		impl.SiNone, impl.SiMinus, impl.SiPlus, impl.SiSpace,
		impl.GrNone, impl.GrComma, impl.GrLine,
		impl.VaInt, impl.VaDec, impl.VaText,
		impl.MaxWidth, impl.MaxPrec,
	}
	for i, want := range []int{0, 1, 2, 3, 4, 0, 1, 2, 3, 0, 1, 2, 0, 1, 2, 30, 9} {
		if got[i] != want {
			t.Errorf("constant %d of the table is %d, want %d", i, got[i], want)
		}
	}
	if impl.Types != "dboxXcsfeEgG%" {
		t.Errorf("Types = %q", impl.Types)
	}
}

func TestValidSpecLimits(t *testing.T) {
	eachSpec(func(s impl.Spec) {
		if !impl.ValidSpec(s) {
			t.Fatalf("ValidSpec(%+v) = false", s)
		}
	})
	fillsAndAligns(printableFills(), func(s impl.Spec) {
		if !impl.ValidSpec(s) {
			t.Errorf("ValidSpec(%+v) = false", s)
		}
	})
	for width := 0; width <= impl.MaxWidth; width++ {
		if !impl.ValidSpec(impl.Spec{Width: width, Prec: -1}) {
			t.Errorf("ValidSpec of Width %d = false", width)
		}
	}
	for prec := -1; prec <= impl.MaxPrec; prec++ {
		if !impl.ValidSpec(impl.Spec{Prec: prec}) {
			t.Errorf("ValidSpec of Prec %d = false", prec)
		}
	}
	for _, s := range invalidSpecs() {
		if impl.ValidSpec(s) {
			t.Errorf("ValidSpec(%+v) = true", s)
		}
	}
}

func TestSpecTextExamples(t *testing.T) {
	for _, c := range []struct {
		s    impl.Spec
		want string
	}{
		{noMarks, ""},
		{impl.Spec{}, ".0"},
		{impl.Spec{Fill: "*", Align: impl.AlCentre, Sign: impl.SiPlus, Alt: true, Zero: true, Width: 12, Group: impl.GrComma, Prec: 3, Type: "f"}, "*^+#012,.3f"},
		{impl.Spec{Fill: "<", Align: impl.AlLeft, Width: 5, Prec: -1}, "<<5"},
		{impl.Spec{Fill: "=", Align: impl.AlInside, Sign: impl.SiSpace, Prec: -1}, "== "},
		{impl.Spec{Fill: "0", Align: impl.AlRight, Zero: true, Width: 30, Prec: -1}, "0>030"},
		{impl.Spec{Fill: " ", Align: impl.AlRight, Sign: impl.SiMinus, Group: impl.GrLine, Prec: 9, Type: "%"}, " >-_.9%"},
		{impl.Spec{Zero: true, Prec: -1}, "0"},
		{impl.Spec{Width: 1, Prec: 0}, "1.0"},
		{impl.Spec{Align: impl.AlLeft, Prec: -1, Type: "s"}, "<s"},
	} {
		if got := impl.SpecText(c.s); got != c.want {
			t.Errorf("SpecText(%+v) = %q, want %q", c.s, got, c.want)
		}
	}
	for _, s := range invalidSpecs() {
		if got := impl.SpecText(s); got != "" {
			t.Errorf("SpecText(%+v) = %q", s, got)
		}
	}
}

func TestParseSpecExamples(t *testing.T) {
	for _, c := range []struct {
		text string
		want impl.Spec
	}{
		{"", noMarks},
		{"<", impl.Spec{Align: impl.AlLeft, Prec: -1}},
		{"<5", impl.Spec{Align: impl.AlLeft, Width: 5, Prec: -1}},
		{"<<5", impl.Spec{Fill: "<", Align: impl.AlLeft, Width: 5, Prec: -1}},
		{"<=", impl.Spec{Fill: "<", Align: impl.AlInside, Prec: -1}},
		{"=<", impl.Spec{Fill: "=", Align: impl.AlLeft, Prec: -1}},
		{"==", impl.Spec{Fill: "=", Align: impl.AlInside, Prec: -1}},
		{"=", impl.Spec{Align: impl.AlInside, Prec: -1}},
		{"-", impl.Spec{Sign: impl.SiMinus, Prec: -1}},
		{"->", impl.Spec{Fill: "-", Align: impl.AlRight, Prec: -1}},
		{"->-", impl.Spec{Fill: "-", Align: impl.AlRight, Sign: impl.SiMinus, Prec: -1}},
		{"+^+", impl.Spec{Fill: "+", Align: impl.AlCentre, Sign: impl.SiPlus, Prec: -1}},
		{" ", impl.Spec{Sign: impl.SiSpace, Prec: -1}},
		{" > ", impl.Spec{Fill: " ", Align: impl.AlRight, Sign: impl.SiSpace, Prec: -1}},
		{"0", impl.Spec{Zero: true, Prec: -1}},
		{"08", impl.Spec{Zero: true, Width: 8, Prec: -1}},
		{"030", impl.Spec{Zero: true, Width: 30, Prec: -1}},
		{"30", impl.Spec{Width: 30, Prec: -1}},
		{"0<0", impl.Spec{Fill: "0", Align: impl.AlLeft, Zero: true, Prec: -1}},
		{"0=10", impl.Spec{Fill: "0", Align: impl.AlInside, Width: 10, Prec: -1}},
		{"0=010", impl.Spec{Fill: "0", Align: impl.AlInside, Zero: true, Width: 10, Prec: -1}},
		{"0,", impl.Spec{Zero: true, Group: impl.GrComma, Prec: -1}},
		{".0s", impl.Spec{Prec: 0, Type: "s"}},
		{".>.9", impl.Spec{Fill: ".", Align: impl.AlRight, Prec: 9}},
		{"5<", impl.Spec{Fill: "5", Align: impl.AlLeft, Prec: -1}},
		{"d<d", impl.Spec{Fill: "d", Align: impl.AlLeft, Prec: -1, Type: "d"}},
		{"~^", impl.Spec{Fill: "~", Align: impl.AlCentre, Prec: -1}},
		{"|^", impl.Spec{Fill: "|", Align: impl.AlCentre, Prec: -1}},
		{"%", impl.Spec{Prec: -1, Type: "%"}},
	} {
		got, ok := impl.ParseSpec(c.text)
		if got != c.want || !ok {
			t.Errorf("ParseSpec(%q) = %+v, %v, want %+v", c.text, got, ok, c.want)
		}
	}
}

func TestParseSpecRejects(t *testing.T) {
	long := strings.Repeat("9", 1000)
	for _, text := range []string{
		"q", "00", "000", "001", "31", "99", "100", "300", "031", "0031", long, "0" + long, "*<" + long,
		".", ".f", "..3", ".10", ".09", ".00", ".-1", ".+1", ".3.", "3.f", "." + long,
		"+-", "--", "++", "  ", "+ ", "#+", "0#", "80#", "5 d", "#<5x<", "d5", ".35", ",_", ",,", "__", ".3,", ",3", "_0",
		"dd", "fd", "d ", " d ", "D", "a", "*", "*5", "**<", "<<<", "<<<5", "<5<", "<+<",
		"{<", "}>", "{^5", "}=5", "{", "}", "{}", "\x7f<", "\x1f>", "\n<", "\x00^", "\t=", "<\n", "d\n", "\n",
		"\x80<", "\xff>5", "é<", "é", "\ufffd<", "€^5", "<é", "5é", "\xc3<\xa9", "\x80", "１", "5\x00", "٣",
	} {
		if got, ok := impl.ParseSpec(text); ok || got != (impl.Spec{}) {
			t.Errorf("ParseSpec(%q) = %+v, %v", text, got, ok)
		}
	}
}

func TestPromise14SpecificationsHaveTexts(t *testing.T) {
	check := func(s impl.Spec) {
		text := impl.SpecText(s)
		if want, ok := specOf(text); !ok || want != s {
			t.Fatalf("SpecText(%+v) = %q", s, text)
		}
		if got, ok := impl.ParseSpec(text); !ok || got != s {
			t.Fatalf("ParseSpec(%q) = %+v, %v, want %+v", text, got, ok, s)
		}
	}
	eachSpec(check)
	fillsAndAligns(printableFills(), func(s impl.Spec) {
		for _, s.Zero = range []bool{false, true} {
			for _, s.Type = range append(strings.Split(impl.Types, ""), "") {
				for s.Width = 0; s.Width <= impl.MaxWidth; s.Width++ {
					check(s)
				}
				s.Width = 0
				for s.Prec = -1; s.Prec <= impl.MaxPrec; s.Prec++ {
					check(s)
				}
				s.Prec = -1
			}
		}
	})
}

func TestPromise15TextsTellSpecificationsApart(t *testing.T) {
	seen := map[string]impl.Spec{}
	eachSpec(func(s impl.Spec) {
		text := impl.SpecText(s)
		if other, ok := seen[text]; ok {
			t.Fatalf("SpecText is %q for %+v and for %+v", text, s, other)
		}
		seen[text] = s
		bare := s
		bare.Fill = ""
		if got := impl.SpecText(bare); s.Fill+got != text {
			t.Fatalf("SpecText(%+v) = %q, but %q without Fill", s, text, got)
		}
	})
}

func TestPromise16SpecificationsAreWrittenBack(t *testing.T) {
	const bytes = "<=>^-+ #0139,_.dcsf%*{\x80\n"
	check := func(text string) {
		want, wantOK := specOf(text)
		got, ok := impl.ParseSpec(text)
		if got != want || ok != wantOK {
			t.Fatalf("ParseSpec(%q) = %+v, %v, want %+v, %v", text, got, ok, want, wantOK)
		}
		if ok && (!impl.ValidSpec(got) || impl.SpecText(got) != text) {
			t.Fatalf("SpecText(%+v) = %q, want %q", got, impl.SpecText(got), text)
		}
	}
	eachText("", bytes, 4, check)
	for _, start := range []string{"*<", "=^+", "0=#", "<0", "30,", "_.9"} {
		eachText(start, bytes, 3, check)
	}
}
