package tests

import (
	"fmt"
	"math"
	"slices"
	"strings"
	"testing"

	"loop.example/formatplans/impl"
)

func TestFillPercentExamples(t *testing.T) {
	ab, half := textOf("ab"), decOf(dec(-5, -1))
	for _, c := range []struct {
		s    string
		list []impl.Value
		want string
	}{
		{"", nil, ""},
		{"", []impl.Value{}, ""},
		{"plain", nil, "plain"},
		{"a{b}$c", nil, "a{b}$c"},
		{"%%", nil, "%"},
		{"5%% of %%%%", nil, "5% of %%"},
		{"%d%%", []impl.Value{intOf(5)}, "5%"},
		{"%d%d", []impl.Value{intOf(5), intOf(-6)}, "5-6"},
		{"%s-%d", []impl.Value{ab, intOf(1)}, "ab-1"},
		{"{%d}", []impl.Value{intOf(5)}, "{5}"},
		{"%s", []impl.Value{textOf("%d{0}$a")}, "%d{0}$a"},
		{"%05d", []impl.Value{intOf(42)}, "00042"},
		{"%05d", []impl.Value{intOf(-42)}, "-0042"},
		{"%-5d|", []impl.Value{intOf(42)}, "42   |"},
		{"%5d|", []impl.Value{intOf(42)}, "   42|"},
		{"%+d%+d", []impl.Value{intOf(42), intOf(-42)}, "+42-42"},
		{"% d% d", []impl.Value{intOf(42), intOf(-42)}, " 42-42"},
		{"%+ d% +d", []impl.Value{intOf(42), intOf(42)}, "+42+42"},
		{"%#x %#X %#o %#d", []impl.Value{intOf(255), intOf(255), intOf(8), intOf(8)}, "0xff 0XFF 0o10 8"},
		{"%#08x", []impl.Value{intOf(-255)}, "-0x000ff"},
		{"%c%3c%-3c|", []impl.Value{intOf(65), intOf(32), intOf(126)}, "A   ~  |"},
		{"%s|%4s|%-4s|", []impl.Value{ab, ab, ab}, "ab|  ab|ab  |"},
		{"%.1s|%.0s|%4.1s|%.9s", []impl.Value{ab, ab, ab, ab}, "a||   a|ab"},
		{"%f %.0f %#.0f %.1f", []impl.Value{half, half, half, half}, "-0.500000 0 0. -0.5"},
		{"%e %.0E %.2e", []impl.Value{half, half, half}, "-5.000000e-01 -5E-01 -5.00e-01"},
		{"%g %G %#.3g", []impl.Value{half, decOf(dec(1, 9)), half}, "-0.5 1E+09 -0.500"},
		{"%07.2f|%-7.2f|%+7.2f", []impl.Value{half, half, decOf(dec(5, -1))}, "-000.50|-0.50  |  +0.50"},
		{"%*d", []impl.Value{intOf(1), intOf(42)}, "42"},
		{"%*d", []impl.Value{intOf(5), intOf(42)}, "   42"},
		{"%*d", []impl.Value{intOf(impl.MaxWidth), intOf(42)}, strings.Repeat(" ", impl.MaxWidth-2) + "42"},
		{"%0*d", []impl.Value{intOf(5), intOf(42)}, "00042"},
		{"%0*d", []impl.Value{intOf(10), intOf(42)}, "0000000042"},
		{"%-*d|", []impl.Value{intOf(5), intOf(42)}, "42   |"},
		{"%+*d% *d", []impl.Value{intOf(5), intOf(42), intOf(4), intOf(42)}, "  +42  42"},
		{"%#*x", []impl.Value{intOf(7), intOf(255)}, "   0xff"},
		{"%+0*.2f", []impl.Value{intOf(8), decOf(dec(15, -1))}, "+0001.50"},
		{"%*.1s|%-*.1s|", []impl.Value{intOf(3), ab, intOf(2), ab}, "  a|a |"},
		{"%*c", []impl.Value{intOf(3), intOf(65)}, "  A"},
		{"%d%*d%d", []impl.Value{intOf(1), intOf(2), intOf(3), intOf(4)}, "1 34"},
		{"%*d%*s", []impl.Value{intOf(2), intOf(3), intOf(4), ab}, " 3  ab"},
		{strings.Repeat("%d", 10), slices.Repeat([]impl.Value{intOf(7)}, 10), "7777777777"},
		{strings.Repeat("%*d", 5), slices.Repeat([]impl.Value{intOf(2)}, 10), " 2 2 2 2 2"},
		{"%s%s%s", slices.Repeat([]impl.Value{textOf(backslashes)}, 3), strings.Repeat(backslashes, 3)},
		{strings.Repeat("a", impl.MaxText-2) + "%d", []impl.Value{intOf(impl.MaxWhole)}, strings.Repeat("a", impl.MaxText-2) + "999999999999"},
	} {
		if got, ok := impl.FillPercent(c.s, c.list); got != c.want || !ok {
			t.Errorf("FillPercent(%q, %+v) = %q, %v, want %q", c.s, c.list, got, ok, c.want)
		}
	}
}

func TestFillPercentRejects(t *testing.T) {
	one, ab, half := intOf(1), textOf("ab"), decOf(dec(5, -1))
	for _, c := range []struct {
		s    string
		list []impl.Value
	}{
		{"", []impl.Value{one}}, {"plain", []impl.Value{one}}, {"%%", []impl.Value{one}}, {"%d", nil}, {"%d", []impl.Value{}}, {"%d", []impl.Value{one, one}}, {"%d%d", []impl.Value{one}},
		{"%d%d", []impl.Value{one, one, one}}, {"%*d", []impl.Value{one}}, {"%*d", nil}, {"%*d", []impl.Value{one, one, one}}, {"%d%*d", []impl.Value{one, one}},
		{strings.Repeat("%d", 10), slices.Repeat([]impl.Value{one}, 9)}, {strings.Repeat("%d", 10), slices.Repeat([]impl.Value{one}, 11)}, {strings.Repeat("%*d", 5), slices.Repeat([]impl.Value{one}, 5)},
		{"%d", []impl.Value{ab}}, {"%d", []impl.Value{half}}, {"%d", []impl.Value{textOf("1")}}, {"%d", []impl.Value{decOf(dec(1, 0))}}, {"%x", []impl.Value{ab}}, {"%c", []impl.Value{textOf("a")}},
		{"%s", []impl.Value{one}}, {"%s", []impl.Value{half}}, {"%f", []impl.Value{one}}, {"%g", []impl.Value{ab}}, {"%e", []impl.Value{one}}, {"%s%d", []impl.Value{one, ab}}, {"%d%s%d", []impl.Value{one, ab, ab}},
		{"%c", []impl.Value{intOf(31)}}, {"%c", []impl.Value{intOf(127)}}, {"%c", []impl.Value{intOf(-65)}}, {"%*c", []impl.Value{one, intOf(10)}},
		{"%*d", []impl.Value{ab, one}}, {"%*d", []impl.Value{textOf("5"), one}}, {"%*d", []impl.Value{textOf(""), one}}, {"%*d", []impl.Value{textOf("+5"), one}}, {"%*d", []impl.Value{half, one}},
		{"%*d", []impl.Value{decOf(dec(5, 0)), one}}, {"%*d", []impl.Value{decOf(dec(0, 0)), one}}, {"%*s", []impl.Value{ab, ab}}, {"%*s", []impl.Value{ab, intOf(5)}}, {"%d%*d", []impl.Value{intOf(5), ab, one}},
		{"%d%*d%*d", []impl.Value{one, one, one, intOf(31), one}},
	} {
		if got, ok := impl.FillPercent(c.s, c.list); ok || got != "" {
			t.Errorf("FillPercent(%q, %+v) = %q, %v", c.s, c.list, got, ok)
		}
	}
	for _, v := range notValues() {
		for _, s := range []string{"%d", "%s", "%f", "%c", "%%", ""} {
			if got, ok := impl.FillPercent(s, []impl.Value{v}); ok || got != "" {
				t.Errorf("FillPercent(%q, %+v) = %q, %v", s, v, got, ok)
			}
		}
		for _, list := range [][]impl.Value{{one, v}, {v, one}} {
			for _, s := range []string{"%d%d", "%*d", "%*s", "%*f"} {
				if got, ok := impl.FillPercent(s, list); ok || got != "" {
					t.Errorf("FillPercent(%q, %+v) = %q, %v", s, list, got, ok)
				}
			}
		}
	}
}

func TestWidthsThatAreValues(t *testing.T) {
	forms := map[string]impl.Value{"%*d": intOf(42), "%-*d": intOf(42), "%0*d": intOf(42), "%+#*x": intOf(42), "%*s": textOf("ab"), "%0*.1f": decOf(dec(25, -1)), "%*c": intOf(65)}
	widths := []int{math.MinInt, -impl.MaxWhole, -31, -30, -10, -9, -5, -2, -1, 99, 100, 105, 300, impl.MaxWhole, impl.MaxWhole + 1, math.MaxInt, 1<<32 + 5, 1<<8 + 5}
	for width := range 40 {
		widths = append(widths, width)
	}
	for s, v := range forms {
		for _, width := range widths {
			list := []impl.Value{intOf(width), v}
			want, wantOK := "", width >= 1 && width <= impl.MaxWidth
			if wantOK {
				fixed := strings.Replace(s, "*", fmt.Sprint(width), 1)
				want, _ = impl.FillPercent(fixed, list[1:])
			}
			if got, ok := impl.FillPercent(s, list); got != want || ok != wantOK || ok && len(got) < width {
				t.Errorf("FillPercent(%q, %+v) = %q, %v, want %q, %v", s, list, got, ok, want, wantOK)
			}
		}
	}
}

// goFlags are flags that Go's own forms have, too, with the same meaning.
var goFlags = []string{"", "-", "+", " ", "0", "+-", "- ", "0+", " 0", "+ ", "-+ "}

func TestFillPercentAgreesWithSprintf(t *testing.T) {
	check := func(s string, v impl.Value, plain any) {
		want := fmt.Sprintf(s, plain)
		if got, ok := impl.FillPercent(s, []impl.Value{v}); got != want || !ok {
			t.Fatalf("FillPercent(%q, %+v) = %q, %v, want %q", s, v, got, ok, want)
		}
	}
	for _, width := range []string{"", "1", "5", "12", "30"} {
		for _, flags := range goFlags {
			for _, n := range sampleWholes() {
				for _, kind := range []string{"d", "o", "x", "X"} {
					check("%"+flags+width+kind, intOf(n), n)
				}
			}
			for _, prec := range []string{".0", ".1", ".03", ".8"} {
				for _, d := range []impl.Dec{dec(1, 0), dec(-15, 0), dec(25, 0), dec(125, -3), dec(-1875, -3), dec(123456789, 0), dec(-1000, 0), dec(999999, 0)} {
					f := float64(d.Coef) * math.Pow(10, float64(d.Exp))
					if d.Neg {
						f = -f
					}
					for _, kind := range []string{"f", "e", "E"} {
						if f != 0.125 || kind != "f" || prec != ".0" {
							check("%"+flags+width+prec+kind, decOf(d), f)
						}
					}
				}
			}
		}
		for _, flags := range []string{"", "-"} {
			for _, text := range []string{"", "a", "abc", "{%d}", "abcdefghijklmnop"} {
				for _, prec := range []string{"", ".0", ".2", ".9"} {
					check("%"+flags+width+prec+"s", textOf(text), text)
				}
			}
			for b := ' '; b <= '~'; b++ {
				check("%"+flags+width+"c", intOf(int(b)), b)
			}
		}
	}
}

func TestPromise65TextsNeedNothing(t *testing.T) {
	check := func(s string) {
		got, ok := impl.FillPercent(s, nil)
		want, wantOK := filledForm(s, nil)
		if (impl.NeedOf(s) == 0) != ok || ok != wantOK || got != want {
			t.Fatalf("NeedOf(%q) = %d, but FillPercent = %q, %v, want %q, %v", s, impl.NeedOf(s), got, ok, want, wantOK)
		}
	}
	eachText("", "%da{5 *", 5, check)
	for _, s := range append(notPercents(), percentForms...) {
		check(s)
	}
	for b := range 256 {
		check(string([]byte{byte(b)}))
		check("%" + string([]byte{byte(b)}))
	}
}

func TestPromise66PercentFormsGiveWhatTheirTemplatesGive(t *testing.T) {
	filled := 0
	check := func(s string, list []impl.Value) {
		before := slices.Clone(list)
		got, ok := impl.FillPercent(s, list)
		if !slices.Equal(list, before) {
			t.Fatalf("FillPercent(%q) changes %+v to %+v", s, before, list)
		}
		want, wantOK := filledForm(s, list)
		if got != want || ok != wantOK {
			t.Fatalf("FillPercent(%q, %+v) = %q, %v, want %q, %v", s, list, got, ok, want, wantOK)
		}
		if !ok {
			return
		}
		filled++
		p, _ := impl.PercentTemplate(s)
		if other, otherOK := impl.FillTemplate(p, impl.Args{List: list}); other != got || !otherOK {
			t.Fatalf("FillPercent(%q, %+v) = %q, but of PercentTemplate %q, %v", s, list, got, other, otherOK)
		}
	}
	for _, s := range percentForms {
		for _, list := range percentLists() {
			check(s, list)
		}
	}
	eachPercentForm(func(s string) {
		switch impl.NeedOf(s) {
		case 1:
			check(s, []impl.Value{intOf(-71)})
			check(s, []impl.Value{intOf(71)})
			check(s, []impl.Value{decOf(dec(-1255, -2))})
			check(s, []impl.Value{textOf("abc")})
		case 2:
			check(s, []impl.Value{intOf(7), intOf(71)})
			check(s, []impl.Value{intOf(7), decOf(dec(-1255, -2))})
			check(s, []impl.Value{intOf(7), textOf("abc")})
		}
	})
	if filled < 10000 {
		t.Errorf("only %d forms are filled", filled)
	}
}

func TestPromise67PercentFormsGoOn(t *testing.T) {
	all := filledForms(t)
	for _, a := range all {
		for _, b := range all {
			list := append(slices.Clone(a.list), b.list...)
			if got, ok := impl.FillPercent(a.s+b.s, list); got != a.text+b.text || !ok {
				t.Fatalf("FillPercent(%q, %+v) = %q, %v, want %q", a.s+b.s, list, got, ok, a.text+b.text)
			}
		}
	}
	for size := range 12 {
		for more := range 12 {
			s, list := strings.Repeat("%d", size)+strings.Repeat("%*d", more), slices.Repeat([]impl.Value{intOf(3)}, size+2*more)
			want := strings.Repeat("3", size) + strings.Repeat("  3", more)
			if got, ok := impl.FillPercent(s, list); ok != (size+2*more <= 10) || ok && got != want {
				t.Errorf("FillPercent(%q) = %q, %v, want %q", s, got, ok, want)
			}
		}
	}
}
