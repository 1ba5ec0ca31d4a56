package tests

import (
	"regexp"
	"slices"
	"strings"
	"testing"

	"loop.example/formatplans/impl"
)

// namePattern has the names of fields.
var namePattern = regexp.MustCompile(`^([0-9]?|[a-z]{1,4})$`)

func TestValidNameExamples(t *testing.T) {
	for _, s := range []string{"", "0", "9", "5", "a", "z", "ab", "abc", "abcd", "zzzz", "azaz"} {
		if !impl.ValidName(s) {
			t.Errorf("ValidName(%q) = false", s)
		}
	}
	for _, s := range badNames {
		if impl.ValidName(s) {
			t.Errorf("ValidName(%q) = true", s)
		}
	}
}

func TestPromise52NamesAreShort(t *testing.T) {
	check := func(s string) {
		ok := impl.ValidName(s)
		if ok != namePattern.MatchString(s) || ok && len(s) > impl.MaxName {
			t.Fatalf("ValidName(%q) = %v", s, ok)
		}
		if longer := impl.ValidName(s + "abcd"); ok && longer != (s == "") {
			t.Fatalf("ValidName(%q) = %v", s+"abcd", longer)
		}
	}
	eachText("", "az09A `{:/\x80", 5, check)
	for b := range 256 {
		one := string([]byte{byte(b)})
		for _, s := range []string{one, one + "a", "a" + one, one + "0", "0" + one, "abc" + one, one + "abc", "a" + one + "bc", "abcd" + one} {
			check(s)
		}
	}
}

func TestTemplateTextExamples(t *testing.T) {
	for _, c := range []struct {
		t    impl.Template
		want string
	}{
		{impl.Template{}, ""},
		{templateOf([]impl.Piece{}...), ""},
		{templateOf(wordsOf("plain")), "plain"},
		{templateOf(wordsOf(" ")), " "},
		{templateOf(wordsOf("{")), "{{"},
		{templateOf(wordsOf("}")), "}}"},
		{templateOf(wordsOf("{}")), "{{}}"},
		{templateOf(wordsOf("}a{")), "}}a{{"},
		{templateOf(wordsOf("{{")), "{{{{"},
		{templateOf(wordsOf("!s:>5")), "!s:>5"},
		{templateOf(fieldOf("", "")), "{}"},
		{templateOf(fieldOf("0", "")), "{0}"},
		{templateOf(fieldOf("abcd", "")), "{abcd}"},
		{templateOf(fieldOf("", "s")), "{!s}"},
		{templateOf(fieldOf("a", "r")), "{a!r}"},
		{templateOf(fieldOf("", "", subText(">5"))), "{:>5}"},
		{templateOf(fieldOf("a", "r", subText("!:"))), "{a!r:!:}"},
		{templateOf(fieldOf("", "", subField(""))), "{:{}}"},
		{templateOf(fieldOf("a", "", subField("b"), subField("c"))), "{a:{b}{c}}"},
		{templateOf(fieldOf("a", "s", subText("*<"), subField("b"), subText("."), subField("0"))), "{a!s:*<{b}.{0}}"},
		{templateOf(fieldOf("", ""), fieldOf("", "")), "{}{}"},
		{templateOf(wordsOf("{"), fieldOf("a", ""), wordsOf("}")), "{{{a}}}"},
		{templateOf(wordsOf("a{"), fieldOf("0", "", subText(">5"))), "a{{{0:>5}"},
		{templateOf(fieldOf("", "", subField("")), wordsOf("}")), "{:{}}}}"},
		{templateOf(fieldOf("", "", subText("no specification"))), "{:no specification}"},
	} {
		if got := impl.TemplateText(c.t); got != c.want {
			t.Errorf("TemplateText(%+v) = %q, want %q", c.t, got, c.want)
		}
		if got, ok := impl.ParseTemplate(c.want); !ok || !sameTemplate(got, c.t) {
			t.Errorf("ParseTemplate(%q) = %+v, %v, want %+v", c.want, got, ok, c.t)
		}
		if !impl.ValidTemplate(c.t) {
			t.Errorf("ValidTemplate(%+v) = false", c.t)
		}
	}
}

func TestTemplatesRejected(t *testing.T) {
	for _, p := range notTemplates() {
		if impl.ValidTemplate(p) {
			t.Errorf("ValidTemplate(%+v) = true", p)
		}
		if got := impl.TemplateText(p); got != "" {
			t.Errorf("TemplateText(%+v) = %q", p, got)
		}
		if got := impl.NamesOf(p); got != nil {
			t.Errorf("NamesOf(%+v) = %q", p, got)
		}
		if got, ok := impl.NumberFields(p); ok || got.Pieces != nil {
			t.Errorf("NumberFields(%+v) = %+v, %v", p, got, ok)
		}
		for _, a := range argsSample() {
			if got, ok := impl.FillTemplate(p, a); ok || got != "" {
				t.Errorf("FillTemplate(%+v, %+v) = %q, %v", p, a, got, ok)
			}
			if got, ok := impl.FillSome(p, a); ok || got.Pieces != nil {
				t.Errorf("FillSome(%+v, %+v) = %+v, %v", p, a, got, ok)
			}
		}
	}
}

func TestParseTemplateRejects(t *testing.T) {
	for _, s := range []string{
		"{", "}", "a{", "a}", "}a", "{a", "a}b", "{}}", "{{}", "{}{", "}{", "{{{", "}}}", "{{{{{", "{{a}", "{a}}", "{{{a}}", "{a}}}}", "{a}{{}",
		"{!}", "{a!}", "{a!:>5}", "{a!q}", "{a!d}", "{a!S}", "{a!sr}", "{a!s!r}", "{a! s}", "{a!{s}}", "{!s!}",
		"{:}", "{a:}", "{a!s:}", "{:}<5}", "{:{<5}", "{:{}", "{:{}}}", "{:{a}", "{:{{}}}", "{:{{a}}}", "{:}}", "{:{{", "{:>5", "{a:>5{", "{a:{b!r}}", "{a:{b:>5}}",
		"{a:{b:{c}}}", "{a:{10}}", "{a:{B}}", "{a:{abcde}}", "{a:{ }}", "{:{0}}", "{0:{}}", "{a:{0}{}}",
		"{10}", "{A}", "{abcde}", "{a1}", "{a b}", "{ }", "{ a}", "{a }", "{-1}", "{a.b}", "{a[0]}", "{{a}b}", "{a{b}}",
		"{}{0}", "{0}{}", "{}a{a}b{9}", "{a:{}}{0}", "{}{a:{0}}",
		"\n", "a\n", "{}\n", "{\n}", "{a:\n}", "\x7f", "\x80", "\xff{}", "é", "{é}", "{a!é}", "{a:é}", "\x00",
		strings.Repeat("a", impl.MaxTemplate+1), strings.Repeat("{{", impl.MaxTemplate/2) + "a", strings.Repeat("{", impl.MaxTemplate+1),
		strings.Repeat("{}", impl.MaxPieces+1), strings.Repeat("a{}", impl.MaxPieces/2) + "a", strings.Repeat("{}a", 1000), strings.Repeat("}", 999),
	} {
		if got, ok := impl.ParseTemplate(s); ok || got.Pieces != nil {
			t.Errorf("ParseTemplate(%q) = %+v, %v", s, got, ok)
		}
	}
}

// checkTemplate checks what the functions for texts and names tell of a template, of which all pieces or none may be valid.
func checkTemplate(t *testing.T, p impl.Template) {
	t.Helper()
	want := isTemplate(p)
	if got := impl.ValidTemplate(p); got != want {
		t.Fatalf("ValidTemplate(%+v) = %v", p, got)
	}
	text := impl.TemplateText(p)
	if !want {
		if text != "" {
			t.Fatalf("TemplateText(%+v) = %q", p, text)
		}
		return
	}
	if text != templateBy(p) {
		t.Fatalf("TemplateText(%+v) = %q, want %q", p, text, templateBy(p))
	}
	if back, ok := impl.ParseTemplate(text); !ok || !sameTemplate(back, p) {
		t.Fatalf("ParseTemplate(%q) = %+v, %v, want %+v", text, back, ok, p)
	}
}

func TestPromise53TemplatesHaveTexts(t *testing.T) {
	eachTemplate(func(p impl.Template) { checkTemplate(t, p) })
	for _, p := range longTemplates() {
		if !isTemplate(p) {
			t.Fatalf("no template: %+v", p)
		}
		checkTemplate(t, p)
	}
	for _, p := range notTemplates() {
		if isTemplate(p) {
			t.Fatalf("a template: %+v", p)
		}
	}
}

func TestPromise54BracesGoInPairs(t *testing.T) {
	eachTemplate(func(p impl.Template) {
		if !impl.ValidTemplate(p) {
			return
		}
		fields := len(namesBy(p))
		opened, closed := fields, fields
		for _, piece := range p.Pieces {
			opened += 2 * strings.Count(piece.Text, "{")
			closed += 2 * strings.Count(piece.Text, "}")
		}
		text := impl.TemplateText(p)
		if strings.Count(text, "{") != opened || strings.Count(text, "}") != closed {
			t.Fatalf("TemplateText(%+v) = %q", p, text)
		}
	})
}

func TestPromise55TemplatesAreWrittenBack(t *testing.T) {
	check := func(s string) {
		want, wantOK := templateFrom(s)
		got, ok := impl.ParseTemplate(s)
		if ok != wantOK || !sameTemplate(got, want) {
			t.Fatalf("ParseTemplate(%q) = %+v, %v, want %+v, %v", s, got, ok, want, wantOK)
		}
		if ok && impl.TemplateText(got) != s {
			t.Fatalf("TemplateText of %q = %q", s, impl.TemplateText(got))
		}
	}
	eachText("", "{}a0!:r", 6, check)
	eachText("", "{}a~\n\x80", 5, check)
	eachText("{a!s:", "{}b0!:>", 5, check)
	eachText("{:{}", "{}a:<", 6, check)
	eachText(strings.Repeat("{{", impl.MaxTemplate/2-2), "{}a:", 5, check)
	eachText(strings.Repeat("{}", impl.MaxPieces-3), "{}a", 8, check)
	for b := range 256 {
		one := string([]byte{byte(b)})
		for _, s := range []string{one, one + one, "a" + one, "{" + one + "}", "{a" + one + "}", "{!" + one + "}", "{a!s:" + one + "}", "{:{" + one + "}}", "{}" + one + one, "{:" + one + "{}}"} {
			check(s)
		}
	}
}

func TestPromise56AllFieldsHaveNames(t *testing.T) {
	check := func(p impl.Template) {
		names := impl.NamesOf(p)
		if !impl.ValidTemplate(p) {
			if names != nil {
				t.Fatalf("NamesOf(%+v) = %q", p, names)
			}
			return
		}
		fields := strings.Count(strings.ReplaceAll(impl.TemplateText(p), "{{", ""), "{")
		if !slices.Equal(names, namesBy(p)) || len(names) != fields {
			t.Fatalf("NamesOf(%+v) = %q, want %q", p, names, namesBy(p))
		}
		for _, name := range names {
			if !impl.ValidName(name) {
				t.Fatalf("NamesOf(%+v) = %q", p, names)
			}
		}
	}
	eachTemplate(check)
	for _, p := range longTemplates() {
		check(p)
	}
}

func TestNamesOfExamples(t *testing.T) {
	for _, c := range []struct {
		s    string
		want []string
	}{
		{"", nil},
		{"{{plain}}", nil},
		{"{}", []string{""}},
		{"{:{}}{}{w}", []string{"", "", "", "w"}},
		{"{a:{b}.{c}}x{d}", []string{"a", "b", "c", "d"}},
		{"{1}{0:{1}}{abcd}", []string{"1", "0", "1", "abcd"}},
		{"{:{a}{}}{b}", []string{"", "a", "", "b"}},
	} {
		if got := impl.NamesOf(mustTemplate(t, c.s)); !slices.Equal(got, c.want) {
			t.Errorf("NamesOf(%q) = %q, want %q", c.s, got, c.want)
		}
	}
}

func TestEscapeTextExamples(t *testing.T) {
	for _, c := range []struct {
		text, want string
	}{
		{"", ""}, {"plain", "plain"}, {"{", "{{"}, {"}", "}}"}, {"{}", "{{}}"}, {"a{b}c", "a{{b}}c"}, {"{{", "{{{{"}, {"}{", "}}{{"}, {"!s:", "!s:"},
		{strings.Repeat("{", impl.MaxText), strings.Repeat("{", 2*impl.MaxText)},
	} {
		if got := impl.EscapeText(c.text); got != c.want {
			t.Errorf("EscapeText(%q) = %q, want %q", c.text, got, c.want)
		}
	}
	for _, text := range notTexts() {
		if got := impl.EscapeText(text); got != "" {
			t.Errorf("EscapeText(%q) = %q", text, got)
		}
	}
}

func TestPromise61EscapedTextsStandForThemselves(t *testing.T) {
	check := func(text string) {
		escaped := impl.EscapeText(text)
		if escaped != doubledBy(text) {
			t.Fatalf("EscapeText(%q) = %q, want %q", text, escaped, doubledBy(text))
		}
		p, ok := impl.ParseTemplate(escaped)
		if !ok {
			t.Fatalf("ParseTemplate(%q) fails", escaped)
		}
		for _, a := range argsSample() {
			if got, ok := impl.FillTemplate(p, a); got != text || !ok {
				t.Fatalf("FillTemplate(%q) = %q, %v, want %q", escaped, got, ok, text)
			}
		}
	}
	for _, text := range edgeTexts {
		check(text)
	}
	eachText("", "{}a", 6, check)
	eachText(strings.Repeat("{}", impl.MaxText/2-2), "{}a", 4, check)
	for b := ' '; b <= '~'; b++ {
		check(string(b))
	}
}
