package tests

import (
	"strings"
	"testing"

	"loop.example/formatplans/impl"
)

func TestValidValueTakes(t *testing.T) {
	for _, v := range append(sampleValues(), impl.Value{}, intOf(impl.MaxWhole), intOf(-impl.MaxWhole), decOf(dec(0, -3)), decOf(dec(-1, 12))) {
		if !impl.ValidValue(v) {
			t.Errorf("ValidValue(%+v) = false", v)
		}
	}
	for _, d := range sampleDecs() {
		if !impl.ValidValue(decOf(d)) {
			t.Errorf("ValidValue(%+v) = false", decOf(d))
		}
	}
}

func TestValidValueRejects(t *testing.T) {
	for _, v := range notValues() {
		if impl.ValidValue(v) {
			t.Errorf("ValidValue(%+v) = true", v)
		}
	}
}

func TestFormatValueExamples(t *testing.T) {
	for _, c := range []struct {
		spec string
		v    impl.Value
		want string
	}{
		{"", intOf(0), "0"},
		{"", intOf(-12), "-12"},
		{"05", intOf(-12), "-0012"},
		{"c", intOf(32), " "},
		{"c", intOf(65), "A"},
		{"c", intOf(126), "~"},
		{"*^4c", intOf(126), "*~**"},
		{"#x", intOf(255), "0xff"},
		{"", decOf(dec(-500, -2)), "-5"},
		{"", decOf(dec(125, -2)), "1.25"},
		{".1f", decOf(dec(125, -2)), "1.2"},
		{"8.1%", decOf(dec(125, -2)), "  125.0%"},
		{"", textOf(""), ""},
		{".0", textOf("abc"), ""},
		{"s", textOf("{}"), "{}"},
		{"*>5.2s", textOf("abc"), "***ab"},
	} {
		if got, ok := impl.FormatValue(mustParse(t, c.spec), c.v); got != c.want || !ok {
			t.Errorf("FormatValue(%q, %+v) = %q, %v, want %q", c.spec, c.v, got, ok, c.want)
		}
	}
}

func TestFormatValueRejects(t *testing.T) {
	for _, c := range []struct {
		spec string
		v    impl.Value
	}{
		{"c", intOf(31)}, {"c", intOf(127)}, {"c", intOf(-65)}, {"c", intOf(0)}, {"c", intOf(4294967296 + 65)}, {"*^5c", intOf(31)}, {"+c", intOf(65)},
		{"s", intOf(1)}, {"f", intOf(1)}, {".2", intOf(1)}, {",x", intOf(1)},
		{"d", decOf(dec(1, 0))}, {"s", decOf(dec(1, 0))}, {".2", decOf(dec(1, 0))}, {"#", decOf(dec(1, 0))},
		{"d", textOf("1")}, {"f", textOf("1")}, {"c", textOf("a")}, {"=5", textOf("a")}, {"+", textOf("a")}, {"05", textOf("a")}, {",", textOf("a")},
	} {
		if got, ok := impl.FormatValue(mustParse(t, c.spec), c.v); got != "" || ok {
			t.Errorf("FormatValue(%q, %+v) = %q, %v", c.spec, c.v, got, ok)
		}
	}
	for _, v := range notValues() {
		for _, spec := range []string{"", "d", "c", "f", "s", "5"} {
			if got, ok := impl.FormatValue(mustParse(t, spec), v); got != "" || ok {
				t.Errorf("FormatValue(%q, %+v) = %q, %v", spec, v, got, ok)
			}
		}
	}
	for _, s := range invalidSpecs() {
		for _, v := range fewValues {
			if got, ok := impl.FormatValue(s, v); got != "" || ok {
				t.Errorf("FormatValue(%+v, %+v) = %q, %v", s, v, got, ok)
			}
		}
	}
}

// checkPlain checks that PlainSpec writes some values as the specification does.
func checkPlain(t *testing.T, s impl.Spec, values []impl.Value) {
	t.Helper()
	for _, v := range values {
		want, wantOK := impl.FormatValue(s, v)
		got, ok := impl.FormatValue(impl.PlainSpec(s, v.Kind), v)
		if got != want || ok != wantOK {
			t.Fatalf("FormatValue(%q, %+v) = %q, %v, but by PlainSpec %q, %v", impl.SpecText(s), v, want, wantOK, got, ok)
		}
		if c := s.Type == "c" && (v.Int < 32 || v.Int > 126); ok == c {
			t.Fatalf("FormatValue(%q, %+v) = %q, %v", impl.SpecText(s), v, got, ok)
		}
	}
}

func TestPromise21WhatIsPlainIsWrittenAlike(t *testing.T) {
	wholes := []impl.Value{intOf(0), intOf(7), intOf(-7), intOf(65), intOf(126), intOf(127), intOf(31), intOf(-1234567), intOf(impl.MaxWhole)}
	eachWholeSpec(func(s impl.Spec) { checkPlain(t, s, wholes) })
	decs := []impl.Value{decOf(dec(0, 0)), decOf(dec(-4, -2)), decOf(dec(-123456789, -2)), decOf(dec(5, 7)), decOf(dec(999999999, 12))}
	eachRealSpec([]int{0, 9, 30}, func(s impl.Spec) { checkPlain(t, s, decs) })
	texts := []impl.Value{textOf(""), textOf("a"), textOf("it's"), textOf("abcdefghij"), textOf(strings.Repeat("x", impl.MaxText))}
	eachTextSpec(func(s impl.Spec) { checkPlain(t, s, texts) })
}

func TestPromise50ValuesAreOfOneKind(t *testing.T) {
	check := func(v impl.Value) {
		if got, ok := impl.FormatValue(noMarks, v); got != bareOf(v) || !ok {
			t.Fatalf("FormatValue(%q, %+v) = %q, %v, want %q", "", v, got, ok, bareOf(v))
		}
		for _, kind := range kinds {
			other := v
			other.Kind = kind
			// A value of 0 or nothing has nothing that tells its kind.
			same := kind == v.Kind || v.Int == 0 && v.Dec == (impl.Dec{}) && v.Text == ""
			if impl.ValidValue(other) != same {
				t.Fatalf("ValidValue(%+v) = %v", other, !same)
			}
			if _, ok := impl.FormatValue(noMarks, other); ok != same {
				t.Fatalf("FormatValue(%q, %+v): %v", "", other, ok)
			}
		}
	}
	for _, v := range sampleValues() {
		check(v)
	}
	for _, d := range sampleDecs() {
		check(decOf(d))
	}
}

// formattedBy returns what the function of the kind of a value gives.
func formattedBy(s impl.Spec, v impl.Value) string {
	switch v.Kind {
	case impl.VaInt:
		return impl.FormatWhole(s, v.Int)
	case impl.VaDec:
		return impl.FormatReal(s, v.Dec)
	}
	return impl.FormatText(s, v.Text)
}

func TestPromise51ValuesAreWrittenByTheirKinds(t *testing.T) {
	eachSpec(func(s impl.Spec) {
		if s.Fill != "" && s.Fill != "0" {
			return
		}
		for _, v := range fewValues {
			got, ok := impl.FormatValue(s, v)
			if want := formattedBy(s, v); got != want {
				t.Fatalf("FormatValue(%q, %+v) = %q, want %q", impl.SpecText(s), v, got, want)
			}
			if want, wantOK := valueText(s, v); got != want || ok != wantOK {
				t.Fatalf("FormatValue(%q, %+v) = %q, %v, want %q, %v", impl.SpecText(s), v, got, ok, want, wantOK)
			}
			if ok && !impl.SpecSuits(s, v.Kind) {
				t.Fatalf("FormatValue(%q, %+v) = %q, but the specification does not suit", impl.SpecText(s), v, got)
			}
		}
	})
}
