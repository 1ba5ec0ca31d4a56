package tests

import (
	"slices"
	"strings"
	"testing"

	"loop.example/formatplans/impl"
)

func TestNumberFieldsExamples(t *testing.T) {
	for _, c := range []struct {
		s, want string
	}{
		{"", ""},
		{"{{}}", "{{}}"},
		{"{}", "{0}"},
		{"{}{}", "{0}{1}"},
		{"{:{}}{}{w}", "{0:{1}}{2}{w}"},
		{"{a:{}}{}", "{a:{0}}{1}"},
		{"{:{a}{}}x{!r:{}.{}}", "{0:{a}{1}}x{2!r:{3}.{4}}"},
		{"{5}{0:{5}}", "{5}{0:{5}}"},
		{"{a:{b}}{a}", "{a:{b}}{a}"},
		{"{}{}{}{}{}{}{}{}{}{}", "{0}{1}{2}{3}{4}{5}{6}{7}{8}{9}"},
		{"{:{}{}{}{}}{a}{:{}{}{}{}}", "{0:{1}{2}{3}{4}}{a}{5:{6}{7}{8}{9}}"},
		{"{a:{}{}{}{}{}{}{}{}{}{}}{b}", "{a:{0}{1}{2}{3}{4}{5}{6}{7}{8}{9}}{b}"},
	} {
		got, ok := impl.NumberFields(mustTemplate(t, c.s))
		if !ok || !sameTemplate(got, mustTemplate(t, c.want)) {
			t.Errorf("NumberFields(%q) = %q, %v, want %q", c.s, impl.TemplateText(got), ok, c.want)
		}
	}
}

// notNumbered has templates with more than ten fields without a name, and those that would be too long with numbers.
var notNumbered = []string{
	"{}{}{}{}{}{}{}{}{}{:{}}",
	"{:{}{}{}{}}{a}{:{}{}{}{}{}}",
	"{a:{}{}{}{}{}{}{}{}{}{}{}}",
	"{:{}{}{}{}{}{}{}{}{}{}}",
	"{:" + strings.Repeat("{}", 50) + "}",
	"{}" + strings.Repeat("a", impl.MaxTemplate-2),
	"{}{}" + strings.Repeat("a", impl.MaxTemplate-5),
	"{:{}" + strings.Repeat("9", impl.MaxTemplate-6) + "}",
}

func TestNumberFieldsRejects(t *testing.T) {
	for _, s := range notNumbered {
		p := mustTemplate(t, s)
		if got, ok := impl.NumberFields(p); ok || got.Pieces != nil {
			t.Errorf("NumberFields(%q) = %+v, %v", s, got, ok)
		}
		for _, a := range argsSample() {
			if got, ok := impl.FillTemplate(p, a); ok || got != "" {
				t.Errorf("FillTemplate(%q, %+v) = %q, %v", s, a, got, ok)
			}
		}
	}
	for _, s := range []string{"{}" + strings.Repeat("a", impl.MaxTemplate-3), "{}{}" + strings.Repeat("a", impl.MaxTemplate-6)} {
		if got, ok := impl.NumberFields(mustTemplate(t, s)); !ok || len(impl.TemplateText(got)) != impl.MaxTemplate {
			t.Errorf("NumberFields(%q) = %+v, %v", s, got, ok)
		}
	}
}

func TestPromise57NumbersStandForNothing(t *testing.T) {
	check := func(p impl.Template) {
		before := cloneTemplate(p)
		got, ok := impl.NumberFields(p)
		if !sameTemplate(p, before) {
			t.Fatalf("NumberFields changes %+v to %+v", before, p)
		}
		want, wantOK := numberedBy(p)
		if ok != wantOK || !sameTemplate(got, want) {
			t.Fatalf("NumberFields(%+v) = %+v, %v, want %+v, %v", p, got, ok, want, wantOK)
		}
		if !ok {
			return
		}
		names, old := impl.NamesOf(got), impl.NamesOf(p)
		if again, ok := impl.NumberFields(got); !ok || !sameTemplate(again, got) || slices.Contains(names, "") {
			t.Fatalf("NumberFields(%+v) = %+v, %v", got, again, ok)
		}
		for i, name := range old {
			if name != "" && names[i] != name {
				t.Fatalf("NumberFields(%+v) = %+v", p, got)
			}
		}
	}
	eachTemplate(func(p impl.Template) {
		if impl.ValidTemplate(p) {
			check(p)
		}
	})
	for _, p := range longTemplates() {
		check(p)
	}
}

func TestResultsOfTemplatesAreNew(t *testing.T) {
	for _, s := range []string{"{:{}}x", "{0:{1}<}", "{a:{b}}{c:>{b}}", "{x:>{y}}{}"} {
		p := mustTemplate(t, s)
		numbered, _ := impl.NumberFields(p)
		some, _ := impl.FillSome(p, impl.Args{Named: []impl.Arg{{Name: "c", Value: intOf(1)}}})
		for _, result := range []impl.Template{numbered, some} {
			for i, piece := range result.Pieces {
				for k := range piece.Subs {
					piece.Subs[k].Name = "z"
				}
				_ = append(piece.Subs, subText("z"))
				result.Pieces[i].Name = "z"
			}
			_ = append(result.Pieces, wordsOf("z"))
			if impl.TemplateText(p) != s {
				t.Errorf("%q is changed to %+v", s, p)
			}
		}
	}
}

func TestPartsOfOneResultAreApart(t *testing.T) {
	p := mustTemplate(t, "{:{}}{:{}}{:{}}")
	numbered, _ := impl.NumberFields(p)
	some, _ := impl.FillSome(p, impl.Args{})
	for _, result := range []impl.Template{p, numbered, some} {
		want := cloneTemplate(result)
		for i := range result.Pieces {
			_ = append(result.Pieces[i].Subs, subText("z"))
		}
		if !sameTemplate(result, want) {
			t.Errorf("%+v is changed to %+v", want, result)
		}
	}
	names := impl.NamesOf(p)
	names[0] = "z"
	if impl.NamesOf(p)[0] != "" {
		t.Errorf("NamesOf = %q", impl.NamesOf(p))
	}
}

// namedArgs returns so many values with different names.
func namedArgs(count int) []impl.Arg {
	var all []impl.Arg
	for i := range count {
		all = append(all, impl.Arg{Name: string(rune('a' + i)), Value: intOf(i)})
	}
	return all
}

// notArgs returns arguments that are not valid, each because of one fault.
func notArgs() []impl.Args {
	one := intOf(1)
	bad := []impl.Args{
		{List: make([]impl.Value, 11)}, {List: make([]impl.Value, 1000)}, {Named: namedArgs(11)}, {List: make([]impl.Value, 10), Named: namedArgs(11)},
		{Named: []impl.Arg{{Name: "a", Value: one}, {Name: "a", Value: one}}},
		{Named: []impl.Arg{{Name: "a", Value: one}, {Name: "b", Value: one}, {Name: "a", Value: textOf("x")}}},
		{Named: []impl.Arg{{Name: "a", Value: one}, {Name: "abcd", Value: one}, {Name: "abcd", Value: one}}},
	}
	for _, name := range append([]string{"", "0", "5", "9"}, badNames...) {
		bad = append(bad, impl.Args{Named: []impl.Arg{{Name: name, Value: one}}}, impl.Args{Named: []impl.Arg{{Name: "a", Value: one}, {Name: name}}})
	}
	for _, v := range notValues() {
		bad = append(bad,
			impl.Args{List: []impl.Value{v}}, impl.Args{List: []impl.Value{one, one, v}}, impl.Args{List: []impl.Value{v, one}},
			impl.Args{Named: []impl.Arg{{Name: "a", Value: v}}}, impl.Args{Named: []impl.Arg{{Name: "a", Value: one}, {Name: "b", Value: v}}})
	}
	return bad
}

func TestValidArgsRejects(t *testing.T) {
	for _, a := range notArgs() {
		if impl.ValidArgs(a) {
			t.Errorf("ValidArgs(%+v) = true", a)
		}
		for _, s := range []string{"", "plain", "{a}", "{0}", "{}", "{x}"} {
			p := mustTemplate(t, s)
			if got, ok := impl.FillTemplate(p, a); ok || got != "" {
				t.Errorf("FillTemplate(%q, %+v) = %q, %v", s, a, got, ok)
			}
			if got, ok := impl.FillSome(p, a); ok || got.Pieces != nil {
				t.Errorf("FillSome(%q, %+v) = %+v, %v", s, a, got, ok)
			}
		}
	}
}

func TestPromise58ArgumentsCanBeLeftOut(t *testing.T) {
	all := argsSample()
	for _, v := range sampleValues() {
		all = append(all, impl.Args{List: []impl.Value{v, v}, Named: []impl.Arg{{Name: "a", Value: v}, {Name: "b", Value: v}}})
	}
	for count := range 11 {
		all = append(all, impl.Args{List: make([]impl.Value, count), Named: namedArgs(count)})
	}
	for _, name := range []string{"a", "z", "ab", "abc", "abcd", "zzzz"} {
		all = append(all, impl.Args{Named: []impl.Arg{{Name: name, Value: textOf("x")}}})
	}
	for _, a := range all {
		for _, some := range []impl.Args{a, {List: a.List}, {Named: a.Named}, {}} {
			if !impl.ValidArgs(some) {
				t.Errorf("ValidArgs(%+v) = false", some)
			}
		}
	}
}
