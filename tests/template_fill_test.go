package tests

import (
	"strings"
	"testing"

	"loop.example/formatplans/impl"
)

// backslashes is a text whose QuoteText has more than MaxText bytes.
var backslashes = strings.Repeat("\\", impl.MaxText)

// argsOf returns arguments of which the values of the list have the names a, b and so on, too.
func argsOf(list ...impl.Value) impl.Args {
	a := impl.Args{List: list}
	for i, v := range list {
		a.Named = append(a.Named, impl.Arg{Name: string(rune('a' + i)), Value: v})
	}
	return a
}

func TestFillTemplateExamples(t *testing.T) {
	x, one, five, half := textOf("x"), intOf(1), intOf(5), decOf(dec(-5, -1))
	for _, c := range []struct {
		s    string
		a    impl.Args
		want string
	}{
		{"", impl.Args{}, ""},
		{"plain {{}}", impl.Args{}, "plain {}"},
		{"{{{a}}}", argsOf(five), "{5}"},
		{"{}-{}", argsOf(one, x), "1-x"},
		{"{1}{0}{1}", argsOf(one, x), "x1x"},
		{"{b}{}{a}{}", argsOf(one, x), "x11x"},
		{"{9}", impl.Args{List: append(make([]impl.Value, 9), x)}, "x"},
		{"{}", argsOf(one, x, five), "1"},
		{"{:>3}|{:^3}|{:*<3}", argsOf(one, x, five), "  1| x |5**"},
		{"{:08.2f}", argsOf(half), "-0000.50"},
		{"{:c}{:c}", argsOf(intOf(32), intOf(126)), " ~"},
		{"{:.0}", argsOf(x), ""},
		{"{0:{1}d}", argsOf(five, intOf(8)), "       5"},
		{"{:{}d}{}", argsOf(five, intOf(3), x), "  5x"},
		{"{:{}{}{}}", argsOf(five, textOf("*^"), five, textOf("d")), "**5**"},
		{"{a:{b}}", argsOf(decOf(dec(125, -2)), textOf(".1f")), "1.2"},
		{"{a:{b}}", argsOf(five, textOf("")), "5"},
		{"{a:{b}}", argsOf(five, decOf(dec(30, -1))), "  5"},
		{"{a:{b}}", argsOf(five, intOf(-4)), "   5"},
		{"{a:{b}3}", argsOf(five, intOf(0)), "005"},
		{"{a:>{b}3}", argsOf(five, textOf("")), "  5"},
		{"{a:.{b}f}", argsOf(decOf(dec(125, -2)), decOf(dec(1, 0))), "1.2"},
		{"{a:{a}}", argsOf(five), "    5"},
		{"{a!s}{a!r}", argsOf(five), "55"},
		{"{a!s}{a!r}", argsOf(half), "-0.5-0.5"},
		{"{a!s}{a!r}", argsOf(x), "x'x'"},
		{"{a!s}{a!r}", argsOf(textOf("")), "''"},
		{"{a!s}", argsOf(textOf(`it's \`)), `it's \`},
		{"{a!r}", argsOf(textOf(`it's \`)), `'it\'s \\'`},
		{"{a!r:>6}{b!s:.1}", argsOf(x, intOf(89)), "   'x'8"},
		{"{a!s:3}{a:3}", argsOf(five), "5    5"},
		{"{a!r:*^9.2s}", argsOf(decOf(dec(-125, -2))), "***-1****"},
		{"{a!r}", argsOf(textOf(backslashes)), "'" + backslashes + backslashes + "'"},
		{"{a!r:>30}", argsOf(textOf(backslashes)), "'" + backslashes + backslashes + "'"},
		{"{a!r:*>11.9}", argsOf(textOf(backslashes)), "**'" + backslashes[:8]},
		{"{a}{a}{a}{a}", argsOf(textOf(backslashes)), strings.Repeat(backslashes, 4)},
	} {
		if got, ok := impl.FillTemplate(mustTemplate(t, c.s), c.a); got != c.want || !ok {
			t.Errorf("FillTemplate(%q, %+v) = %q, %v, want %q", c.s, c.a, got, ok, c.want)
		}
	}
}

func TestFillTemplateRejects(t *testing.T) {
	x, one := textOf("x"), intOf(1)
	for _, c := range []struct {
		s string
		a impl.Args
	}{
		{"{}", impl.Args{}}, {"{0}", impl.Args{Named: namedArgs(10)}}, {"{a}", impl.Args{List: make([]impl.Value, 10)}},
		{"x{}{}", argsOf(one)}, {"{1}", argsOf(one)}, {"{9}", impl.Args{List: make([]impl.Value, 9)}}, {"{c}", argsOf(one, x)}, {"{ab}", argsOf(one, x)},
		{"{0:{1}}", argsOf(one)}, {"{:{}}", argsOf(one)}, {"{a:{b}}", argsOf(one)}, {"{b:{a}}", argsOf(one)}, {"{a:<{b}}{a}", argsOf(one)},
		{"{:q}", argsOf(one)}, {"{:>>>5}", argsOf(one)}, {"{:31}", argsOf(one)}, {"{:.}", argsOf(one)}, {"{: 5 }", argsOf(one)}, {"{::5}", argsOf(one)},
		{"{0:{1}}", argsOf(one, textOf("q"))}, {"{0:{1}}", argsOf(one, textOf("{<5"))}, {"{0:{1}}", argsOf(one, textOf("}<5"))}, {"{0:{1}}", argsOf(one, textOf("{0}"))},
		{"{0:{1}}", argsOf(one, intOf(31))}, {"{0:{1}}", argsOf(one, decOf(dec(5, 5)))}, {"{0:{1}{1}}", argsOf(one, intOf(30))}, {"{0:{1}}", argsOf(one, textOf(backslashes))},
		{"{0:s}", argsOf(one)}, {"{0:.2}", argsOf(one)}, {"{0:f}", argsOf(one)}, {"{0:d}", argsOf(x)}, {"{0:05}", argsOf(x)}, {"{0:d}", argsOf(decOf(dec(1, 0)))},
		{"{0:c}", argsOf(intOf(31))}, {"{0:c}", argsOf(intOf(127))}, {"{0:{1}}", argsOf(intOf(31), textOf("c"))}, {"{0:{1}}", argsOf(one, textOf("s"))},
		{"{0!s:d}", argsOf(one)}, {"{0!r:d}", argsOf(one)}, {"{0!s:05}", argsOf(one)}, {"{0!s:=5}", argsOf(one)}, {"{0!r:+}", argsOf(one)}, {"{0!s:,}", argsOf(one)},
		{"{0!r:c}", argsOf(intOf(65))}, {"{0!s:f}", argsOf(decOf(dec(1, 0)))}, {"{0!r:x}", argsOf(x)}, {"{0!s:q}", argsOf(x)}, {"{0!r:{1}}", argsOf(x, textOf("d"))},
		{"plain{0}{0:q}", argsOf(x)},
	} {
		if got, ok := impl.FillTemplate(mustTemplate(t, c.s), c.a); ok || got != "" {
			t.Errorf("FillTemplate(%q, %+v) = %q, %v", c.s, c.a, got, ok)
		}
	}
}

// fillTexts has texts of pieces, of which most can be filled with some arguments of argsSample.
var fillTexts = []string{
	"x", "{{}} ", "{}", "{:>5}", "{:{}}", "{0}", "{1:{3}}", "{2:{8}}", "{4!r}", "{9!s:{9}}",
	"{a}", "{a:c}", "{a:{b}}", "{a!s:{b}}", "{b:{b}{c}}", "{c!s:.{c}}", "{abcd}", "{abcd!r:.{c}}", "{x}", "{a:{x}}",
}

// eachFilling calls f with valid templates of at most 3 of fillTexts and with arguments.
func eachFilling(f func(p impl.Template, a impl.Args)) {
	all := argsSample()
	eachWord("", fillTexts, 3, func(s string) {
		p, ok := impl.ParseTemplate(s)
		if !ok {
			return
		}
		for _, a := range all {
			f(p, a)
		}
	})
}

// eachWord calls f with start and with all texts that have it at their beginning and at most size of these words behind it.
func eachWord(start string, words []string, size int, f func(s string)) {
	f(start)
	for i := 0; i < len(words) && size > 0; i++ {
		eachWord(start+words[i], words, size-1, f)
	}
}

func TestPromise59NumbersAndNothingFillAlike(t *testing.T) {
	filled := 0
	eachFilling(func(p impl.Template, a impl.Args) {
		got, ok := impl.FillTemplate(p, a)
		want, wantOK := filledIn(p, a)
		if got != want || ok != wantOK {
			t.Fatalf("FillTemplate(%q, %+v) = %q, %v, want %q, %v", impl.TemplateText(p), a, got, ok, want, wantOK)
		}
		numbered, _ := impl.NumberFields(p)
		if other, otherOK := impl.FillTemplate(numbered, a); other != got || otherOK != ok {
			t.Fatalf("FillTemplate(%q, %+v) = %q, %v, but by NumberFields %q, %v", impl.TemplateText(p), a, got, ok, other, otherOK)
		}
		if len(impl.NamesOf(p)) == 0 && (!ok || len(p.Pieces) > 0 && got != p.Pieces[0].Text) {
			t.Fatalf("FillTemplate(%q, %+v) = %q, %v", impl.TemplateText(p), a, got, ok)
		}
		if ok {
			filled++
		}
	})
	if filled < 1000 {
		t.Errorf("only %d templates are filled", filled)
	}
}

func TestPromise60TemplatesAreFilledPieceByPiece(t *testing.T) {
	eachFilling(func(p impl.Template, a impl.Args) {
		p, _ = impl.NumberFields(p)
		whole, ok := impl.FillTemplate(p, a)
		for i := range len(p.Pieces) + 1 {
			first, firstOK := impl.FillTemplate(templateOf(p.Pieces[:i]...), a)
			others, othersOK := impl.FillTemplate(templateOf(p.Pieces[i:]...), a)
			if ok != (firstOK && othersOK) || ok && whole != first+others {
				t.Fatalf("FillTemplate(%q, %+v) = %q, %v, but in two parts %q, %v and %q, %v", impl.TemplateText(p), a, whole, ok, first, firstOK, others, othersOK)
			}
		}
	})
}

func TestFillSomeExamples(t *testing.T) {
	for _, c := range []struct {
		s    string
		a    impl.Args
		want string
	}{
		{"", argsOf(intOf(1)), ""},
		{"plain {{}}", argsOf(intOf(1)), "plain {{}}"},
		{"-{a}{b:>3}{a:{b}}", impl.Args{Named: namedArgs(1)}, "-0{b:>3}{a:{b}}"},
		{"{a}{b}{c}", impl.Args{}, "{a}{b}{c}"},
		{"{a}{b}{c}", impl.Args{Named: namedArgs(2)}, "01{c}"},
		{"{a}{b}{c}", impl.Args{Named: namedArgs(3)}, "012"},
		{"{c}{b}{a}", impl.Args{Named: namedArgs(2)}, "{c}10"},
		{"{a}{c}{b}", impl.Args{Named: namedArgs(2)}, "0{c}1"},
		{"x{a}y{b}z", impl.Args{Named: namedArgs(2)}, "x0y1z"},
		{"x{a}y", argsOf(textOf("")), "xy"},
		{"{a}", argsOf(textOf("")), ""},
		{"{a}{a}{b}{a}", impl.Args{Named: []impl.Arg{{Name: "a", Value: textOf("")}}}, "{b}"},
		{"{x}{a}{x}", argsOf(textOf("")), "{x}{x}"},
		{"{x}{a:.0}y{a:.0}{x}", argsOf(textOf("abc")), "{x}y{x}"},
		{"{a}{b}", argsOf(textOf("{"), textOf("}")), "{{}}"},
		{"{{{a}}}{x}", argsOf(textOf("{x}")), "{{{{x}}}}{x}"},
		{"{a!r}{x}", argsOf(textOf("'")), `'\''{x}`},
		{"{a!s:>3}{x!s:>3}", argsOf(intOf(5)), "  5{x!s:>3}"},
		{"{}{a}{}", argsOf(intOf(5)), "{}5{}"},
		{"{0}{a}{1}", argsOf(intOf(5)), "{0}5{1}"},
		{"{a:{}}{:{a}}", argsOf(intOf(5)), "{a:{}}{:{a}}"},
		{"{a:{0}}{0:{a}}", argsOf(intOf(5)), "{a:{0}}{0:{a}}"},
		{"{a:{x}{b}}{x:{b}}", argsOf(intOf(5), intOf(3)), "{a:{x}{b}}{x:{b}}"},
		{"{x:{b}}{x}", argsOf(intOf(5), textOf("{<5")), "{x:{b}}{x}"},
		{"{a:{b}}{x:{b}}", argsOf(intOf(5), intOf(3)), "  5{x:{b}}"},
		{"{a:*<{b}{c}}", argsOf(intOf(5), intOf(3), textOf("d")), "5**"},
		{"{x:q}{a}", argsOf(intOf(5)), "{x:q}5"},
		{"{}{}{}{}{}{}{}{}{a}{:{}{}{}}", argsOf(intOf(5)), "{}{}{}{}{}{}{}{}5{:{}{}{}}"},
	} {
		got, ok := impl.FillSome(mustTemplate(t, c.s), c.a)
		if !ok || !sameTemplate(got, mustTemplate(t, c.want)) {
			t.Errorf("FillSome(%q, %+v) = %+v, %v, want %q", c.s, c.a, got, ok, c.want)
		}
	}
}

func TestFillSomeRejects(t *testing.T) {
	for _, c := range []struct {
		s string
		a impl.Args
	}{
		{"{a:q}", argsOf(intOf(5))}, {"{x}{a:q}", argsOf(intOf(5))}, {"{a:s}", argsOf(intOf(5))}, {"{a!s:d}", argsOf(intOf(5))}, {"{a:c}{x}", argsOf(intOf(31))},
		{"{a:{b}}", argsOf(intOf(5), textOf("{<5"))}, {"{a:{b}}", argsOf(intOf(5), textOf("}<5"))}, {"{a:{b}}{x}", argsOf(intOf(5), textOf("{c}"))},
		{"{a:{b}}", argsOf(intOf(5), intOf(31))}, {"{a:{b}<5}", argsOf(intOf(5), textOf("{"))}, {"{a:{b}}", argsOf(textOf("x"), textOf("d"))},
		{"{a}{a}{a}", argsOf(textOf(backslashes))}, {"{a!r}{a}", argsOf(textOf(backslashes))}, {"{x}{a}{x}{a}{x}{a:>30}", argsOf(textOf(backslashes))},
		{"{a}{a}", argsOf(textOf(strings.Repeat("{", 51)))}, {"{a}{x}{a}", argsOf(textOf(strings.Repeat("}", 50)))},
	} {
		if got, ok := impl.FillSome(mustTemplate(t, c.s), c.a); ok || got.Pieces != nil {
			t.Errorf("FillSome(%q, %+v) = %+v, %v", c.s, c.a, got, ok)
		}
	}
}

func TestFillSomeUpToTheLongestTemplate(t *testing.T) {
	p := mustTemplate(t, "{a}{a}{b}{x}")
	for _, fill := range []string{"c", "{", "}"} {
		for size := range impl.MaxText + 1 {
			for _, more := range []int{0, 1, 5, 36, 37, 38, 39, 80} {
				a := argsOf(textOf(strings.Repeat(fill, size)), textOf(strings.Repeat("d", more)))
				want := len(doubledBy(fill))*2*size+more+len("{x}") <= impl.MaxTemplate
				if got, ok := impl.FillSome(p, a); ok != want || !impl.ValidTemplate(got) {
					t.Fatalf("FillSome(%q, %+v) = %+v, %v", "{a}{a}{b}{x}", a, got, ok)
				}
			}
		}
	}
}

// someOf returns the arguments of a that have names, the first count of them.
func someOf(a impl.Args, count int) impl.Args {
	return impl.Args{List: a.List, Named: a.Named[:count]}
}

func TestPromise62SomeNowAndSomeLaterIsAllAtOnce(t *testing.T) {
	both := 0
	eachFilling(func(p impl.Template, a impl.Args) {
		whole, ok := impl.FillTemplate(p, a)
		for count := range len(a.Named) + 1 {
			now := someOf(a, count)
			before := cloneTemplate(p)
			some, someOK := impl.FillSome(p, now)
			if !sameTemplate(p, before) {
				t.Fatalf("FillSome changes %+v to %+v", before, p)
			}
			want, wantOK := filledSome(p, now)
			if someOK != wantOK || someOK && !sameTemplate(some, want) || !someOK && some.Pieces != nil {
				t.Fatalf("FillSome(%q, %+v) = %+v, %v, want %+v, %v", impl.TemplateText(p), now, some, someOK, want, wantOK)
			}
			if !ok || !someOK {
				continue
			}
			both++
			if later, laterOK := impl.FillTemplate(some, a); later != whole || !laterOK {
				t.Fatalf("FillTemplate(%q, %+v) = %q, but of FillSome %q, %v", impl.TemplateText(p), a, whole, later, laterOK)
			}
		}
	})
	if both < 1000 {
		t.Errorf("only %d templates are filled", both)
	}
}

func TestPromise63WithoutNamedArgumentsNothingIsFilled(t *testing.T) {
	check := func(p impl.Template) {
		for _, a := range argsSample() {
			a = impl.Args{List: a.List}
			if got, ok := impl.FillSome(p, a); !ok || !sameTemplate(got, p) {
				t.Fatalf("FillSome(%+v, %+v) = %+v, %v", p, a, got, ok)
			}
		}
	}
	eachWord("", fillTexts, 3, func(s string) {
		if p, ok := impl.ParseTemplate(s); ok {
			check(p)
		}
	})
	for _, p := range longTemplates() {
		check(p)
	}
	for _, s := range notNumbered {
		check(mustTemplate(t, s))
	}
}
