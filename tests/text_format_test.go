package tests

import (
	"strings"
	"testing"

	"loop.example/formatplans/impl"
)

func TestFormatTextExamples(t *testing.T) {
	longest := strings.Repeat("ab", impl.MaxText/2)
	for _, c := range []struct {
		spec, text, want string
	}{
		{"", "", ""},
		{"", "abcd", "abcd"},
		{"s", "abcd", "abcd"},
		{"", longest, longest},
		{"30", longest, longest},
		{".0", "abcd", ""},
		{".0s", "", ""},
		{".1", "abcd", "a"},
		{".3", "abcd", "abc"},
		{".4", "abcd", "abcd"},
		{".5", "abcd", "abcd"},
		{".9s", longest, "ababababa"},
		{"6", "abcd", "abcd  "},
		{"<6", "abcd", "abcd  "},
		{">6", "abcd", "  abcd"},
		{"^6", "abcd", " abcd "},
		{"^7", "abcd", " abcd  "},
		{"*^7s", "abcd", "*abcd**"},
		{"0<6", "ab", "ab0000"},
		{"~>3", "a", "~~a"},
		{"3", "abcd", "abcd"},
		{"4", "abcd", "abcd"},
		{"5", "abcd", "abcd "},
		{"*>5.2", "abcd", "***ab"},
		{"*^5.2", "abcd", "*ab**"},
		{"2.3", "abcd", "abc"},
		{"*<3.0", "abcd", "***"},
		{"*<3", "", "***"},
		{"30", "", strings.Repeat(" ", 30)},
		{"*>30.9s", longest, strings.Repeat("*", 21) + "ababababa"},
	} {
		if got := impl.FormatText(mustParse(t, c.spec), c.text); got != c.want {
			t.Errorf("FormatText(%q, %q) = %q, want %q", c.spec, c.text, got, c.want)
		}
	}
}

func TestPromise43TextsAreCutAndFilled(t *testing.T) {
	eachTextSpec(func(s impl.Spec) {
		plain := impl.PlainSpec(s, impl.VaText)
		for _, text := range edgeTexts {
			first := text
			if s.Prec >= 0 {
				first = text[:min(s.Prec, len(text))]
			}
			got := impl.FormatText(s, text)
			want := filledBy(first, s.Width, impl.FillFor(s), impl.AlignFor(s, impl.VaText))
			if got != want || len(got) < s.Width {
				t.Fatalf("FormatText(%q, %q) = %q, want %q", impl.SpecText(s), text, got, want)
			}
			if padded := impl.PadText(first, s.Width, impl.FillFor(s), impl.AlignFor(s, impl.VaText)); got != padded {
				t.Fatalf("FormatText(%q, %q) = %q, but PadText of %q = %q", impl.SpecText(s), text, got, first, padded)
			}
			if other := impl.FormatText(plain, text); other != got {
				t.Fatalf("FormatText(%q, %q) = %q, but by PlainSpec %q", impl.SpecText(s), text, got, other)
			}
		}
	})
}

func TestFormatTextOfAllPrecisions(t *testing.T) {
	for size := range impl.MaxPrec + 3 {
		text := "abcdefghijklmnop"[:size]
		for prec := 0; prec <= impl.MaxPrec; prec++ {
			want := text
			if prec < size {
				want = text[:prec]
			}
			if got := impl.FormatText(impl.Spec{Prec: prec}, text); got != want {
				t.Errorf("FormatText(.%d, %q) = %q, want %q", prec, text, got, want)
			}
		}
	}
}

func TestFormatTextRejects(t *testing.T) {
	for _, s := range unsuitedForTexts() {
		for _, text := range []string{"", "a", "abcdef"} {
			if got := impl.FormatText(s, text); got != "" {
				t.Errorf("FormatText(%+v, %q) = %q", s, text, got)
			}
		}
	}
	for _, spec := range []string{"", "s", "5", ".0", ".1", "*^30.9s"} {
		for _, text := range notTexts() {
			if got := impl.FormatText(mustParse(t, spec), text); got != "" {
				t.Errorf("FormatText(%q, %q) = %q", spec, text, got)
			}
		}
	}
}

func TestQuoteTextExamples(t *testing.T) {
	for _, c := range []struct {
		text, want string
	}{
		{``, `''`},
		{` `, `' '`},
		{`~`, `'~'`},
		{`abc`, `'abc'`},
		{`'`, `'\''`},
		{`\`, `'\\'`},
		{`''`, `'\'\''`},
		{`\\`, `'\\\\'`},
		{`\'`, `'\\\''`},
		{`'\`, `'\'\\'`},
		{`'a`, `'\'a'`},
		{`a'`, `'a\''`},
		{`\a`, `'\\a'`},
		{`a\`, `'a\\'`},
		{`a'b\c`, `'a\'b\\c'`},
		{`"a"`, `'"a"'`},
		{`\n`, `'\\n'`},
		{strings.Repeat(`'`, impl.MaxText), `'` + strings.Repeat(`\'`, impl.MaxText) + `'`},
		{strings.Repeat(`\`, impl.MaxText), `'` + strings.Repeat(`\\`, impl.MaxText) + `'`},
		{strings.Repeat(`a`, impl.MaxText), `'` + strings.Repeat(`a`, impl.MaxText) + `'`},
	} {
		if got := impl.QuoteText(c.text); got != c.want {
			t.Errorf("QuoteText(%q) = %q, want %q", c.text, got, c.want)
		}
		if got, ok := impl.UnquoteText(c.want); got != c.text || !ok {
			t.Errorf("UnquoteText(%q) = %q, %v, want %q", c.want, got, ok, c.text)
		}
	}
}

func TestQuoteTextRejects(t *testing.T) {
	for _, text := range notTexts() {
		if got := impl.QuoteText(text); got != "" {
			t.Errorf("QuoteText(%q) = %q", text, got)
		}
		if got, ok := impl.UnquoteText(quotedBy(text)); got != "" || ok {
			t.Errorf("UnquoteText(%q) = %q, %v", quotedBy(text), got, ok)
		}
	}
}

func TestUnquoteTextRejects(t *testing.T) {
	for _, s := range []string{
		``, `'`, `\`, `a`, `ab`, ` `, `'a`, `a'`, `'''`, `'a'b'`, `''a`, `a''`, `''''`, ` ''`, `'' `, `"a"`, "`a`",
		`'\'`, `'a\'`, `'\\\'`, `'a\\\'`, `\''`, `'\`, `''\`, `\'a\'`,
		`'\a'`, `'\n'`, `'\ '`, `'\"'`, `'\\\a'`, `'a\b'`, `'\x41'`, `'\'\'`,
		"'\n'", "'a\x7f'", "'\x1f'", "'\x00'", "'é'", "'\\\n'", "''\n", "\n''",
		`'` + strings.Repeat(`\'`, impl.MaxText+1) + `'`, `'` + strings.Repeat(`\\`, impl.MaxText+1) + `'`,
		strings.Repeat(`\`, 1000), strings.Repeat(`'`, 1000), `'` + strings.Repeat(`a`, 1000) + `'`,
	} {
		if got, ok := impl.UnquoteText(s); got != "" || ok {
			t.Errorf("UnquoteText(%q) = %q, %v", s, got, ok)
		}
	}
}

func TestPromise44QuotesAreTakenOff(t *testing.T) {
	check := func(text string) {
		quoted := impl.QuoteText(text)
		if want := quotedBy(text); quoted != want {
			t.Fatalf("QuoteText(%q) = %q, want %q", text, quoted, want)
		}
		if !strings.HasPrefix(quoted, "'") || !strings.HasSuffix(quoted[1:], "'") {
			t.Fatalf("QuoteText(%q) = %q", text, quoted)
		}
		if got, ok := impl.UnquoteText(quoted); got != text || !ok {
			t.Fatalf("UnquoteText(%q) = %q, %v, want %q", quoted, got, ok, text)
		}
	}
	for _, text := range edgeTexts {
		check(text)
	}
	eachText("", "'\\a ", 7, check)
	eachText(strings.Repeat("'\\", impl.MaxText/2-2), "'\\a ", 4, check)
	for b := ' '; b <= '~'; b++ {
		check(string(b))
		check("\\" + string(b))
	}
}

func TestPromise45QuotedTextsAreQuotedAgain(t *testing.T) {
	check := func(s string) {
		want, wantOK := unquotedOf(s)
		text, ok := impl.UnquoteText(s)
		if text != want || ok != wantOK {
			t.Fatalf("UnquoteText(%q) = %q, %v, want %q, %v", s, text, ok, want, wantOK)
		}
		if ok && impl.QuoteText(text) != s {
			t.Fatalf("QuoteText(%q) = %q, want %q", text, impl.QuoteText(text), s)
		}
	}
	eachText("", "'\\a", 9, check)
	eachText("", "'\\a ~\n\x7f\"", 4, check)
	eachText("'"+strings.Repeat("\\'", impl.MaxText-2), "'\\a", 6, check)
	eachText("'"+strings.Repeat("a", impl.MaxText-2), "'\\a", 6, check)
	for b := range 256 {
		one := string([]byte{byte(b)})
		for _, s := range []string{one, "'" + one, one + "'", "'" + one + "'", "'\\" + one + "'", "''" + one} {
			check(s)
		}
	}
}
