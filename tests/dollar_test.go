package tests

import (
	"slices"
	"strings"
	"testing"

	"loop.example/formatplans/impl"
)

func TestDollarTemplateExamples(t *testing.T) {
	for _, c := range []struct {
		s, want string
	}{
		{"", ""},
		{"plain", "plain"},
		{"$$", "$"},
		{"$$$$", "$$"},
		{"a$$", "a$"},
		{"$$a", "$a"},
		{"5$$ of $$", "5$ of $"},
		{"$${a}", "${{a}}"},
		{"$a", "{a}"},
		{"${a}", "{a}"},
		{"$$$a", "${a}"},
		{"$$${a}", "${a}"},
		{"$a$$", "{a}$"},
		{"$a$$b", "{a}$b"},
		{"$abcd", "{abcd}"},
		{"${abcd}", "{abcd}"},
		{"${abcd}efgh", "{abcd}efgh"},
		{"${a}b", "{a}b"},
		{"$ab", "{ab}"},
		{"$a-${b}c$$", "{a}-{b}c$"},
		{"$a$b", "{a}{b}"},
		{"$a${b}", "{a}{b}"},
		{"${a}$b", "{a}{b}"},
		{"$a$a$a", "{a}{a}{a}"},
		{"$a1", "{a}1"},
		{"$aB", "{a}B"},
		{"$abcdE", "{abcd}E"},
		{"$abcd1", "{abcd}1"},
		{"$a b", "{a} b"},
		{"$a}", "{a}}}"},
		{"{$a}", "{{{a}}}"},
		{"$a{b}", "{a}{{b}}"},
		{"${a}}", "{a}}}"},
		{"{${a}}", "{{{a}}}"},
		{"a{b", "a{{b"},
		{"%d%%$a", "%d%%{a}"},
		{"$z`$a~", "{z}`{a}~"},
		{strings.Repeat("$a", impl.MaxPieces), strings.Repeat("{a}", impl.MaxPieces)},
		{strings.Repeat("-$a", impl.MaxPieces/2), strings.Repeat("-{a}", impl.MaxPieces/2)},
		{strings.Repeat("a", impl.MaxText), strings.Repeat("a", impl.MaxText)},
		{strings.Repeat("$", impl.MaxText), strings.Repeat("$", impl.MaxText/2)},
		{strings.Repeat("}", impl.MaxText), strings.Repeat("}", 2*impl.MaxText)},
		{strings.Repeat("{", impl.MaxText-5) + "$abcd", strings.Repeat("{", 2*(impl.MaxText-5)) + "{abcd}"},
		{strings.Repeat("a", impl.MaxText-7) + "${abcd}", strings.Repeat("a", impl.MaxText-7) + "{abcd}"},
	} {
		got, ok := impl.DollarTemplate(c.s)
		if !ok || !sameTemplate(got, mustTemplate(t, c.want)) {
			t.Errorf("DollarTemplate(%q) = %q, %v, want %q", c.s, impl.TemplateText(got), ok, c.want)
		}
	}
}

// notDollars returns texts that are no dollar forms, each because of one fault.
func notDollars() []string {
	bad := []string{
		"$", "a$", "$$$", "$a$", "$$a$", "$ ", "$ a", "a$ b", "$-a", "$.", "$}", "$}a", "$`a", "$!a", "$(a)", "$[a]", "$%a",
		"$1", "$0", "$9a", "$a$1", "$A", "$Ab", "$_a", "$$$1",
		"$abcde", "$abcdefgh", "a$abcde", "$a$abcde", "$abcde$a", "${abcde}", "${abcdefgh}", "$zzzzz", "$abcde1",
		"${", "${a", "${a b", "${abcd", "${abcd a}", "${a$b}", "${a${b}", "a${", "$a${", "${a{", "${a:}", "${a!r}", "$a${b", "${$$}", "${$a}",
		"${}", "${}a}", "a${}b", "${ }", "${ a}", "${a }", "${{a}}", "${{a}", "$ {a}",
		"${1}", "${a1}", "${1a}", "${A}", "${aB}", "${abcd1}", "${0}", "${_}", "${a.b}",
		strings.Repeat("$a", impl.MaxPieces+1), strings.Repeat("${a}", impl.MaxPieces+1), strings.Repeat("$a-", impl.MaxPieces/2) + "$a", "-" + strings.Repeat("$a", impl.MaxPieces), strings.Repeat("$a", impl.MaxPieces) + "$$", strings.Repeat("$a ", 26),
		strings.Repeat("a", impl.MaxText+1), strings.Repeat("$", impl.MaxText+2), strings.Repeat("a", impl.MaxText-1) + "$b", "$a" + strings.Repeat("-", impl.MaxText-1),
		strings.Repeat("a", impl.MaxText-6) + "${abcd}", strings.Repeat("a", impl.MaxText-1) + "$", strings.Repeat("$", impl.MaxText-1),
		"\n", "$a\n", "\x00$a", "$\na", "${a\n}", "$a\x7f", "$\xff", "$é", "${é}", "é$a", "\x80", "$$\x1f", "$a" + strings.Repeat("-", 1000), "$a\x00",
	}
	return append(bad, notTexts()...)
}

func TestDollarFormsRejected(t *testing.T) {
	for _, s := range notDollars() {
		if got, ok := impl.DollarTemplate(s); ok || got.Pieces != nil {
			t.Errorf("DollarTemplate(%q) = %q, %v", s, impl.TemplateText(got), ok)
		}
		for _, a := range []impl.Args{{}, {Named: namedArgs(10)}, argsOf(intOf(1), textOf("a"))} {
			if got, ok := impl.FillDollar(s, a); ok || got != "" {
				t.Errorf("FillDollar(%q, %+v) = %q, %v", s, a, got, ok)
			}
		}
	}
}

// checkDollars checks what DollarTemplate and DollarText tell of a text.
func checkDollars(t *testing.T, s string) {
	t.Helper()
	want, wantOK := dollarFrom(s)
	got, ok := impl.DollarTemplate(s)
	if ok != wantOK || !sameTemplate(got, want) {
		t.Fatalf("DollarTemplate(%q) = %+v, %v, want %+v, %v", s, got, ok, want, wantOK)
	}
	if !ok {
		return
	}
	form, formOK := impl.DollarText(got)
	if !impl.ValidTemplate(got) || !formOK || len(form) > len(s) {
		t.Fatalf("DollarText of %q = %q, %v", s, form, formOK)
	}
	if back, backOK := impl.DollarTemplate(form); !backOK || !sameTemplate(back, got) {
		t.Fatalf("DollarTemplate(%q) = %+v, %v, want %+v", form, back, backOK, got)
	}
}

func TestPromise69DollarFormsAreTemplatesOfNames(t *testing.T) {
	check := func(s string) { checkDollars(t, s) }
	eachText("", "$a{}B1", 6, check)
	eachText("$", "abz{}$ ", 5, check)
	eachText("${", "a}b$`", 6, check)
	eachWord("", dollarWords, 4, check)
	eachWord(strings.Repeat("$a", impl.MaxPieces-3), []string{"$a", "${b}", "$$", "-", "c"}, 5, check)
	for _, s := range []string{"$abc", "${abc", "$a${abc"} {
		eachText(s, "de}$", 4, check)
	}
	for b := range 256 {
		one := string([]byte{byte(b)})
		for _, s := range []string{one, "$" + one, "$" + one + "a", "$a" + one, "${" + one + "}", "${a" + one + "}", "${a}" + one, "$abcd" + one, "${" + one + "a}", "${a" + one, "$$" + one, one + "$a"} {
			check(s)
		}
	}
	for _, fill := range []string{"a", "{", "$$"} {
		for _, fields := range []string{"", "$a", "${a}", "$abcd", strings.Repeat("$a", impl.MaxPieces-1), strings.Repeat("${a}", impl.MaxPieces-1)} {
			for size := impl.MaxText - 5; size <= impl.MaxText+5; size++ {
				check(strings.Repeat(fill, size)[:size-len(fields)] + fields)
				check(fields + strings.Repeat(fill, size)[:size-len(fields)])
			}
		}
	}
}

func TestDollarTextExamples(t *testing.T) {
	for _, c := range []struct {
		s, want string
	}{
		{"", ""},
		{"plain", "plain"},
		{"$", "$$"},
		{"$$", "$$$$"},
		{"a$b", "a$$b"},
		{"${{a}}", "$${a}"},
		{"{a}", "$a"},
		{"{abcd}", "$abcd"},
		{"{a}b", "${a}b"},
		{"{a}z", "${a}z"},
		{"{abcd}a", "${abcd}a"},
		{"{a}B", "$aB"},
		{"{a}1", "$a1"},
		{"{a} b", "$a b"},
		{"{a}`", "$a`"},
		{"{a}{{b}}", "$a{b}"},
		{"{a}}}", "$a}"},
		{"{{{a}}}", "{$a}"},
		{"{a}$", "$a$$"},
		{"{a}$b", "$a$$b"},
		{"${a}", "$$$a"},
		{"${a}a", "$$${a}a"},
		{"{a}{b}", "$a$b"},
		{"{a}{b}c", "$a${b}c"},
		{"{a}-{b}c$", "$a-${b}c$$"},
		{"{a}b{c}d{e}", "${a}b${c}d$e"},
		{"{a}{a}{a}{a}{a}{a}{a}{a}{a}{a}", "$a$a$a$a$a$a$a$a$a$a"},
		{strings.Repeat("a", impl.MaxText), strings.Repeat("a", impl.MaxText)},
		{strings.Repeat("$", impl.MaxText/2), strings.Repeat("$", impl.MaxText)},
		{strings.Repeat("{{", impl.MaxText), strings.Repeat("{", impl.MaxText)},
		{strings.Repeat("-", impl.MaxText-5) + "{abcd}", strings.Repeat("-", impl.MaxText-5) + "$abcd"},
		{"{abcd}" + strings.Repeat("-", impl.MaxText-5), "$abcd" + strings.Repeat("-", impl.MaxText-5)},
		{"{abcd}" + strings.Repeat("a", impl.MaxText-7), "${abcd}" + strings.Repeat("a", impl.MaxText-7)},
	} {
		if got, ok := impl.DollarText(mustTemplate(t, c.s)); got != c.want || !ok {
			t.Errorf("DollarText(%q) = %q, %v, want %q", c.s, got, ok, c.want)
		}
	}
}

func TestDollarTextRejects(t *testing.T) {
	for _, s := range []string{
		"{}", "a{}", "{}{}", "{a}{}", "{}{a}", "{0}", "{9}", "x{5}y", "{a}{0}", "{0}{a}", "{!r}", "{:>5}", "{0:>5}",
		"{a!s}", "{a!r}", "{a}{b!s}", "{b!r}{a}", "{a:5}", "{a:>5}", "{a: }", "{a:{b}}", "{a:{}}", "{a:{0}}", "{a!s:5}", "{a}{b:s}", "{b:s}{a}",
		strings.Repeat("a", impl.MaxText+1), strings.Repeat("$", impl.MaxText/2+1), strings.Repeat("{{", impl.MaxText+1), strings.Repeat("a", impl.MaxTemplate), strings.Repeat("$", impl.MaxTemplate),
		strings.Repeat("-", impl.MaxText-4) + "{abcd}", "{abcd}" + strings.Repeat("-", impl.MaxText-4), "{abcd}" + strings.Repeat("a", impl.MaxText-6), strings.Repeat("$", impl.MaxText/2) + "{a}",
		"{a}" + strings.Repeat("$", impl.MaxText/2), strings.Repeat("{abcd}", 9) + strings.Repeat("-", 140),
	} {
		if got, ok := impl.DollarText(mustTemplate(t, s)); ok || got != "" {
			t.Errorf("DollarText(%q) = %q, %v", s, got, ok)
		}
	}
	for _, p := range notTemplates() {
		if got, ok := impl.DollarText(p); ok || got != "" {
			t.Errorf("DollarText(%+v) = %q, %v", p, got, ok)
		}
	}
}

// checkDollarText checks what DollarText tells of a template, which may be not valid.
func checkDollarText(t *testing.T, p impl.Template) {
	t.Helper()
	before := cloneTemplate(p)
	got, ok := impl.DollarText(p)
	if !sameTemplate(p, before) {
		t.Fatalf("DollarText changes %+v to %+v", before, p)
	}
	want, wantOK := dollarBy(p)
	if got != want || ok != wantOK {
		t.Fatalf("DollarText(%+v) = %q, %v, want %q, %v", p, got, ok, want, wantOK)
	}
	if !ok {
		return
	}
	if back, backOK := impl.DollarTemplate(got); !backOK || !sameTemplate(back, p) {
		t.Fatalf("DollarTemplate(%q) = %+v, %v, want %+v", got, back, backOK, p)
	}
}

func TestPromise70DollarFormsAreReadBack(t *testing.T) {
	eachDollarTemplate(func(p impl.Template) { checkDollarText(t, p) })
	pieces := samplePieces()
	for _, first := range pieces {
		for _, second := range pieces {
			checkDollarText(t, templateOf(first, second))
			checkDollarText(t, templateOf(fieldOf("a", ""), first, second))
		}
	}
	for _, fill := range []string{"a", "-", "$", "{", "$a", "a$"} {
		for size := range impl.MaxText + 3 {
			text := wordsOf(strings.Repeat(fill, size)[:size])
			for _, p := range []impl.Template{templateOf(text), templateOf(fieldOf("abcd", ""), text), templateOf(text, fieldOf("abcd", "")), templateOf(fieldOf("a", ""), text, fieldOf("b", ""))} {
				checkDollarText(t, p)
			}
		}
	}
}

func TestFillDollarExamples(t *testing.T) {
	args := impl.Args{Named: []impl.Arg{{Name: "a", Value: intOf(1)}, {Name: "b", Value: textOf("z")}, {Name: "abcd", Value: decOf(dec(-125, -2))}, {Name: "e", Value: textOf("")}, {Name: "f", Value: textOf("$a${b}{a}")}}}
	for _, c := range []struct {
		s, want string
	}{
		{"", ""}, {"plain", "plain"}, {"$$", "$"}, {"5$$$$", "5$$"}, {"{a}", "{a}"}, {"$a", "1"}, {"${a}", "1"}, {"$a$a", "11"}, {"$a-${b}c$$", "1-zc$"}, {"$abcd", "-1.25"},
		{"${abcd}e", "-1.25e"}, {"$$a$$$a", "$a$1"}, {"$e", ""}, {"x${e}y", "xy"}, {"$f$b", "$a${b}{a}z"}, {"{$a}", "{1}"}, {"$a1$b2", "11z2"}, {"$aA", "1A"},
		{strings.Repeat("$abcd", 10), strings.Repeat("-1.25", 10)},
	} {
		if got, ok := impl.FillDollar(c.s, args); got != c.want || !ok {
			t.Errorf("FillDollar(%q) = %q, %v, want %q", c.s, got, ok, c.want)
		}
	}
}

func TestFillDollarRejects(t *testing.T) {
	for _, c := range []struct {
		s string
		a impl.Args
	}{
		{"$a", impl.Args{}}, {"$a", impl.Args{List: []impl.Value{intOf(1)}}}, {"$b", impl.Args{Named: namedArgs(1)}}, {"$a$b", impl.Args{Named: namedArgs(1)}}, {"$b$a", impl.Args{Named: namedArgs(1)}},
		{"$ab", impl.Args{Named: namedArgs(2)}}, {"${ab}", impl.Args{Named: namedArgs(2)}}, {"$aa", impl.Args{Named: namedArgs(1)}}, {"x${b}y", impl.Args{Named: namedArgs(1)}},
	} {
		if got, ok := impl.FillDollar(c.s, c.a); ok || got != "" {
			t.Errorf("FillDollar(%q, %+v) = %q, %v", c.s, c.a, got, ok)
		}
	}
	for _, a := range notArgs() {
		for _, s := range []string{"", "plain", "$$", "$a", "${a}", "$x"} {
			if got, ok := impl.FillDollar(s, a); ok || got != "" {
				t.Errorf("FillDollar(%q, %+v) = %q, %v", s, a, got, ok)
			}
		}
	}
}

func TestPromise71DollarFormsGiveWhatTheirTemplatesGive(t *testing.T) {
	filled := 0
	all := argsSample()
	eachWord("", dollarWords, 3, func(s string) {
		for _, a := range all {
			before := slices.Clone(a.Named)
			got, ok := impl.FillDollar(s, a)
			if !slices.Equal(a.Named, before) {
				t.Fatalf("FillDollar(%q) changes %+v to %+v", s, before, a.Named)
			}
			want, wantOK := filledDollars(s, a)
			if got != want || ok != wantOK {
				t.Fatalf("FillDollar(%q, %+v) = %q, %v, want %q, %v", s, a, got, ok, want, wantOK)
			}
			if !ok {
				continue
			}
			filled++
			p, _ := impl.DollarTemplate(s)
			form, _ := impl.DollarText(p)
			other, otherOK := impl.FillTemplate(p, a)
			again, againOK := impl.FillDollar(form, a)
			if other != got || again != got || !otherOK || !againOK {
				t.Fatalf("FillDollar(%q, %+v) = %q, but of DollarTemplate %q, %v, and of DollarText %q, %v", s, a, got, other, otherOK, again, againOK)
			}
		}
	})
	if filled < 1000 {
		t.Errorf("only %d forms are filled", filled)
	}
}

func TestTemplatesOfFormsAreNew(t *testing.T) {
	percent, _ := impl.PercentTemplate("a%*d%-5s")
	dollar, _ := impl.DollarTemplate("a$a${b}c")
	for _, p := range []impl.Template{percent, dollar} {
		want := cloneTemplate(p)
		for i := range p.Pieces {
			_ = append(p.Pieces[i].Subs, subText("z"))
		}
		if !sameTemplate(p, want) {
			t.Errorf("%+v is changed to %+v", want, p)
		}
		for i := range p.Pieces {
			p.Pieces[i] = wordsOf("z")
		}
	}
	if p, _ := impl.PercentTemplate("a%*d%-5s"); impl.TemplateText(p) != "a{1:>{0}d}{2:<5s}" {
		t.Errorf("PercentTemplate = %+v", p)
	}
	if p, _ := impl.DollarTemplate("a$a${b}c"); impl.TemplateText(p) != "a{a}{b}c" {
		t.Errorf("DollarTemplate = %+v", p)
	}
}
