package tests

import (
	"slices"
	"strconv"
	"strings"
	"testing"

	"loop.example/formatplans/impl"
)

func TestPercentTemplateExamples(t *testing.T) {
	for _, c := range []struct {
		s, want string
	}{
		{"", ""},
		{"plain", "plain"},
		{"%%", "%"},
		{"%%%%", "%%"},
		{"5%% of %%", "5% of %"},
		{"%%d", "%d"},
		{"%%%d", "%{0:>d}"},
		{"%d%%", "{0:>d}%"},
		{"%d%%%d", "{0:>d}%{1:>d}"},
		{"a{b", "a{{b"},
		{"{%d}", "{{{0:>d}}}"},
		{"$a${b}", "$a${{b}}"},
		{"%-d", "{0:<d}"},
		{"%+d", "{0:>+d}"},
		{"% d", "{0:> d}"},
		{"%0d", "{0:0d}"},
		{"%#d", "{0:>#d}"},
		{"%+-d", "{0:<+d}"},
		{"%-+d", "{0:<+d}"},
		{"% -d", "{0:< d}"},
		{"%- d", "{0:< d}"},
		{"%-#x", "{0:<#x}"},
		{"%#-x", "{0:<#x}"},
		{"%+ d", "{0:>+d}"},
		{"% +d", "{0:>+d}"},
		{"%+0d", "{0:+0d}"},
		{"%0+d", "{0:+0d}"},
		{"% 0d", "{0: 0d}"},
		{"%0 d", "{0: 0d}"},
		{"%#0o", "{0:#0o}"},
		{"%0#o", "{0:#0o}"},
		{"%+#X", "{0:>+#X}"},
		{"%# x", "{0:> #x}"},
		{"%0# +8x", "{0:+#08x}"},
		{"%-+ #30x", "{0:<+#30x}"},
		{"%1d", "{0:>1d}"},
		{"%010d", "{0:010d}"},
		{"%30s", "{0:>30s}"},
		{"%*d", "{1:>{0}d}"},
		{"%-*s", "{1:<{0}s}"},
		{"%0*d", "{1:0{0}d}"},
		{"%+0*.2f", "{1:+0{0}.2f}"},
		{"% #*.0e", "{1:> #{0}.0e}"},
		{"%*.3s", "{1:>{0}.3s}"},
		{"%d%*d%d", "{0:>d}{2:>{1}d}{3:>d}"},
		{"%*d%*d", "{1:>{0}d}{3:>{2}d}"},
		{"%.0f", "{0:>.0f}"},
		{"%.9f", "{0:>.9f}"},
		{"%.00f", "{0:>.0f}"},
		{"%.007f", "{0:>.7f}"},
		{"%." + strings.Repeat("0", 70) + "9f", "{0:>.9f}"},
		{"%5.2s", "{0:>5.2s}"},
		{"%o%x%X%c", "{0:>o}{1:>x}{2:>X}{3:>c}"},
		{"%s%f%e%E%g%G", "{0:>s}{1:>f}{2:>e}{3:>E}{4:>g}{5:>G}"},
		{"%#f%#e%#E%#g%#G", "{0:>#f}{1:>#e}{2:>#E}{3:>#g}{4:>#G}"},
		{"%ddd", "{0:>d}dd"},
		{"%d.5", "{0:>d}.5"},
		{"%s*5", "{0:>s}*5"},
		{strings.Repeat("%d", 10), "{0:>d}{1:>d}{2:>d}{3:>d}{4:>d}{5:>d}{6:>d}{7:>d}{8:>d}{9:>d}"},
		{strings.Repeat("%*d", 5), "{1:>{0}d}{3:>{2}d}{5:>{4}d}{7:>{6}d}{9:>{8}d}"},
		{"%d%*d%s%*s%c%*c%f", "{0:>d}{2:>{1}d}{3:>s}{5:>{4}s}{6:>c}{8:>{7}c}{9:>f}"},
		{strings.Repeat("a%d", 5), "a{0:>d}a{1:>d}a{2:>d}a{3:>d}a{4:>d}"},
		{strings.Repeat("a", impl.MaxText), strings.Repeat("a", impl.MaxText)},
		{strings.Repeat("%", impl.MaxText), strings.Repeat("%", impl.MaxText/2)},
		{strings.Repeat("{", impl.MaxText), strings.Repeat("{", 2*impl.MaxText)},
		{strings.Repeat("a", impl.MaxText-2) + "%d", strings.Repeat("a", impl.MaxText-2) + "{0:>d}"},
		{strings.Repeat("%d", 8) + "%*d" + strings.Repeat("}", impl.MaxText-19), "{0:>d}{1:>d}{2:>d}{3:>d}{4:>d}{5:>d}{6:>d}{7:>d}{9:>{8}d}" + strings.Repeat("}", 2*(impl.MaxText-19))},
	} {
		got, ok := impl.PercentTemplate(c.s)
		if !ok || !sameTemplate(got, mustTemplate(t, c.want)) {
			t.Errorf("PercentTemplate(%q) = %q, %v, want %q", c.s, impl.TemplateText(got), ok, c.want)
		}
		if need, want := impl.NeedOf(c.s), strings.Count(strings.ReplaceAll(c.want, "{{", ""), "{"); need != want {
			t.Errorf("NeedOf(%q) = %d, want %d", c.s, need, want)
		}
	}
}

// notPercents returns texts that are no percent forms, each because of one fault.
func notPercents() []string {
	bad := []string{
		"%", "a%", "%%%", "%d%", "a%%b%", "%d %%%", "%5", "%-", "%0", "%*", "%.", "%.2", "%5.2", "%*.", "%-+ #",
		"%--d", "%++d", "%  d", "%00d", "%##x", "%-+-d", "%+ +d", "%0#0x", "%#-#x", "% + d", "%-+ #-d", "%005d", "%00*d",
		"%-0d", "%0-d", "%-05d", "%0-5d", "%-+0d", "%0+-d", "%-0*d", "%0 #-*x", "%-0s", "%0-c",
		"%31d", "%32s", "%99d", "%100d", "%030d%31d", "%031d", "%300f", "%99999999999999999999d", "%" + strings.Repeat("9", impl.MaxText-2) + "d",
		"%5-d", "%5+d", "%5#x", "%5 d", "%*-d", "%*0d", "%*5d", "%5*d", "%**d", "%*d%**d", "%0**d", "%*.2*f", "%*$d", "%1$d",
		"%.d", "%.f", "%.s", "%5.f", "%*.f", "%.-1f", "%.+1f", "%. 1f", "%.*f", "%..1f", "%.1.1f", "%.2 f", "%.2-f", "%.#f",
		"%.10f", "%.10s", "%.010f", "%.11e", "%.99g", "%.100f", "%.99999999999999999999f", "%.2147483648f", "%.18446744073709551616f", "%.4294967296s",
		"%b", "%i", "%u", "%v", "%q", "%D", "%F", "%S", "%C", "%a", "%n", "%5%", "% %", "%.%", "%-%", "%,d", "%_d", "%'d", "%<d", "%>5d", "%^d", "%=5d", "%ld", "%hd", "%(d", "%{d", "%}",
		"%.0d", "%.2d", "%5.2d", "%.1o", "%.2x", "%.3X", "%.1c", "%*.2d", "%0.2d",
		"%05s", "%0s", "%+s", "% s", "%#s", "%0*s", "%+5.2s", "%0c", "%05c", "%+c", "% c", "%#c", "%+-5c",
		strings.Repeat("%d", 11), strings.Repeat("%d", 9) + "%*d", strings.Repeat("%*d", 6), strings.Repeat("%*d", 5) + "%d", "%d" + strings.Repeat("%*d", 5), strings.Repeat("%*d", 20), strings.Repeat("%d", 40),
		strings.Repeat("a%d", 5) + "a", strings.Repeat("%da", 6), strings.Repeat("%%%d", 5) + "%%", strings.Repeat("{%d", 6), strings.Repeat("%d", 10) + "a", "}" + strings.Repeat("%d", 10), "%%" + strings.Repeat("%d", 10),
		strings.Repeat("a", impl.MaxText+1), strings.Repeat("%", impl.MaxText+2), strings.Repeat("a", impl.MaxText-1) + "%d", "%d" + strings.Repeat("{", impl.MaxText-1),
		strings.Repeat("a", impl.MaxText-1) + "%", strings.Repeat("%", impl.MaxText-1),
		"\n", "%d\n", "\x00%d", "%\nd", "%5\x7fd", "%\xffd", "%é", "é%d", "\x80", "%%\x1f", "%d\x7f", "%d" + strings.Repeat("a", 1000), "%\x00", "%.2\x00",
	}
	return append(bad, notTexts()...)
}

func TestPercentFormsRejected(t *testing.T) {
	lists := [][]impl.Value{nil, {intOf(1)}, {textOf("a")}, {decOf(dec(5, -1))}, {intOf(5), intOf(1)}, {intOf(5), textOf("a")}, slices.Repeat([]impl.Value{intOf(1)}, 10), slices.Repeat([]impl.Value{intOf(1)}, 11)}
	for _, s := range notPercents() {
		if got, ok := impl.PercentTemplate(s); ok || got.Pieces != nil {
			t.Errorf("PercentTemplate(%q) = %q, %v", s, impl.TemplateText(got), ok)
		}
		if got := impl.NeedOf(s); got != -1 {
			t.Errorf("NeedOf(%q) = %d", s, got)
		}
		for _, list := range lists {
			if got, ok := impl.FillPercent(s, list); ok || got != "" {
				t.Errorf("FillPercent(%q, %+v) = %q, %v", s, list, got, ok)
			}
		}
	}
}

// checkPercent checks what PercentTemplate and NeedOf tell of a text.
func checkPercent(t *testing.T, s string) {
	t.Helper()
	want, wantOK := percentFrom(s)
	got, ok := impl.PercentTemplate(s)
	if ok != wantOK || !sameTemplate(got, want) {
		t.Fatalf("PercentTemplate(%q) = %+v, %v, want %+v, %v", s, got, ok, want, wantOK)
	}
	need := impl.NeedOf(s)
	if !ok {
		if need != -1 {
			t.Fatalf("NeedOf(%q) = %d", s, need)
		}
		return
	}
	names := slices.Sorted(slices.Values(impl.NamesOf(got)))
	if !impl.ValidTemplate(got) || len(names) != need {
		t.Fatalf("NeedOf(%q) = %d, but the template is %+v", s, need, got)
	}
	for i, name := range names {
		if name != strconv.Itoa(i) {
			t.Fatalf("PercentTemplate(%q) has the names %q", s, names)
		}
	}
}

func TestPromise64PercentFormsAreTemplates(t *testing.T) {
	eachPercentForm(func(s string) { checkPercent(t, s) })
	for b := range 256 {
		one := string([]byte{byte(b)})
		for _, s := range []string{one, "%" + one, "%" + one + "d", "%5" + one, "%.2" + one, "%*" + one, "%d" + one, one + "%s", "%." + one + "f", "%" + one + "5s"} {
			checkPercent(t, s)
		}
	}
	for width := range 1100 {
		checkPercent(t, "%"+strconv.Itoa(width)+"d")
		checkPercent(t, "%-"+strconv.Itoa(width)+"s")
		checkPercent(t, "%."+strconv.Itoa(width)+"f")
	}
}

func TestPromise64FormsUpToTheLongest(t *testing.T) {
	for _, fill := range []string{"a", "{", "%%"} {
		for _, fields := range []string{"", "%d", "%*d", strings.Repeat("%d", 9), strings.Repeat("%d", 8) + "%*d", strings.Repeat("%*d", 5)} {
			for size := impl.MaxText - 5; size <= impl.MaxText+5; size++ {
				s := strings.Repeat(fill, size)[:size-len(fields)] + fields
				checkPercent(t, s)
				checkPercent(t, fields+strings.Repeat(fill, size)[:size-len(fields)])
			}
		}
	}
}

func TestEscapePercentExamples(t *testing.T) {
	for _, c := range []struct {
		text, want string
	}{
		{"", ""}, {"plain", "plain"}, {"%", "%%"}, {"5%", "5%%"}, {"%d", "%%d"}, {"%%", "%%%%"}, {"a%b%c", "a%%b%%c"}, {"{$}", "{$}"},
		{strings.Repeat("%", impl.MaxText/2), strings.Repeat("%", impl.MaxText)},
		{strings.Repeat("%", impl.MaxText/2+1), strings.Repeat("%", impl.MaxText+2)},
		{strings.Repeat("%", impl.MaxText), strings.Repeat("%", 2*impl.MaxText)},
	} {
		if got := impl.EscapePercent(c.text); got != c.want {
			t.Errorf("EscapePercent(%q) = %q, want %q", c.text, got, c.want)
		}
	}
	for _, text := range notTexts() {
		if got := impl.EscapePercent(text); got != "" {
			t.Errorf("EscapePercent(%q) = %q", text, got)
		}
	}
}

func TestPromise68EscapedTextsStandForThemselves(t *testing.T) {
	check := func(text string) {
		escaped := impl.EscapePercent(text)
		if want := strings.Join(strings.Split(text, "%"), "%%"); escaped != want {
			t.Fatalf("EscapePercent(%q) = %q, want %q", text, escaped, want)
		}
		got, ok := impl.FillPercent(escaped, nil)
		if fits := len(escaped) <= impl.MaxText; ok != fits || fits && got != text || !fits && got != "" {
			t.Fatalf("FillPercent(%q) = %q, %v, want %q", escaped, got, ok, text)
		}
	}
	for _, text := range edgeTexts {
		check(text)
	}
	eachText("", "%d5 {$", 5, check)
	eachText(strings.Repeat("%a", impl.MaxText/3-2), "%ab", 4, check)
	for b := ' '; b <= '~'; b++ {
		check(string(b))
		check("%" + string(b))
	}
	for size := range impl.MaxText + 1 {
		check(strings.Repeat("%", size))
	}
}
