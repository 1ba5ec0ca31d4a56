package tests

import (
	"regexp"
	"slices"
	"strconv"
	"strings"
	"testing"

	"loop.example/formatplans/impl"
)

// percentPattern has what a percent form begins with: a text, a %, or a field with its flags, width, precision and type.
var percentPattern = regexp.MustCompile(`^(?:([ -$&-~]+|%%)|%([-+ 0#]*)(\*|[1-9][0-9]*)?(?:\.([0-9]+))?([doxXcsfeEgG]))`)

// percentPart is a text, or a field with what is ahead of its width and behind it in its specification.
type percentPart struct {
	text   string
	ahead  string
	width  string
	behind string
}

// marksBy returns what flags are in a specification; false if one is there twice, or two are against each other.
func marksBy(flags string) (string, bool) {
	set := map[rune]bool{}
	for _, flag := range flags {
		if set[flag] {
			return "", false
		}
		set[flag] = true
	}
	marks := map[bool]string{set['-']: "<", !set['-'] && !set['0']: ">", set['0']: ""}[true]
	marks += map[bool]string{set['+']: "+", !set['+'] && set[' ']: " "}[true]
	if set['#'] {
		marks += "#"
	}
	if set['0'] {
		marks += "0"
	}
	return marks, !(set['0'] && set['-'])
}

// fieldOfForm returns the field that percentPattern has found.
func fieldOfForm(m []string) (percentPart, bool) {
	ahead, ok := marksBy(m[2])
	behind := m[5]
	if m[4] != "" {
		behind = "." + strings.TrimLeft(m[4][:len(m[4])-1], "0") + m[4][len(m[4])-1:] + behind
	}
	s, isSpec := specOf(ahead + strings.Trim(m[3], "*") + behind)
	suited := false
	for _, kind := range kinds {
		suited = suited || isSpec && suitsBy(s, kind)
	}
	return percentPart{ahead: ahead, width: m[3], behind: behind}, ok && suited
}

// percentParts returns the parts of a percent form.
func percentParts(s string) ([]percentPart, bool) {
	parts := []percentPart{}
	for rest := s; rest != ""; {
		m := percentPattern.FindStringSubmatch(rest)
		if m == nil {
			return nil, false
		}
		rest = rest[len(m[0]):]
		if m[1] != "" {
			parts = append(parts, percentPart{text: strings.ReplaceAll(m[1], "%%", "%")})
			continue
		}
		field, ok := fieldOfForm(m)
		if !ok {
			return nil, false
		}
		parts = append(parts, field)
	}
	return parts, len(s) <= impl.MaxText
}

// percentFrom returns what PercentTemplate is to give: it writes the template, and reads it.
func percentFrom(s string) (impl.Template, bool) {
	parts, ok := percentParts(s)
	out, next := "", 0
	for _, p := range parts {
		if p.text != "" {
			out += doubledBy(p.text)
			continue
		}
		width := p.width
		if width == "*" {
			width = "{" + strconv.Itoa(next) + "}"
			next++
		}
		out += "{" + strconv.Itoa(next) + ":" + p.ahead + width + p.behind + "}"
		next++
	}
	if !ok {
		return impl.Template{}, false
	}
	return templateFrom(out)
}

// widthBy returns the width that a value tells.
func widthBy(v impl.Value) (string, bool) {
	return strconv.Itoa(v.Int), v.Kind == impl.VaInt && v.Int >= 1 && v.Int <= impl.MaxWidth
}

// filledForm returns what FillPercent is to give for a percent form and valid values: it takes one value after the other.
func filledForm(s string, list []impl.Value) (string, bool) {
	if _, ok := percentFrom(s); !ok {
		return "", false
	}
	parts, _ := percentParts(s)
	all := ""
	for _, p := range parts {
		if p.text != "" {
			all += p.text
			continue
		}
		width, ok := p.width, true
		if width == "*" && len(list) > 0 {
			width, ok = widthBy(list[0])
			list = list[1:]
		}
		if !ok || len(list) == 0 {
			return "", false
		}
		spec, isSpec := specOf(p.ahead + width + p.behind)
		text, suited := valueText(spec, list[0])
		if !isSpec || !suited {
			return "", false
		}
		all += text
		list = list[1:]
	}
	if len(list) > 0 {
		return "", false
	}
	return all, true
}

// percentTypes has the types of percent forms.
const percentTypes = "doxXcsfeEgG"

// eachFlags calls f with all flags that are at most three, also with those that are twice.
func eachFlags(f func(flags string)) {
	eachText("", "-+ 0#", 3, f)
}

// eachPercentForm calls f with fields of all marks in all combinations, of which some are not valid, and with all short texts of some bytes.
func eachPercentForm(f func(s string)) {
	types := append(strings.Split(percentTypes, ""), "", "%", "b")
	eachFlags(func(flags string) {
		for _, width := range []string{"", "1", "30", "31", "*"} {
			for _, prec := range []string{"", ".", ".0", ".009", ".9", ".10"} {
				for _, kind := range types {
					f("%" + flags + width + prec + kind)
				}
			}
		}
	})
	eachText("", "%d*0.5s{", 5, f)
	eachText("%", "-+ 0#d", 5, f)
	eachWord("", []string{"%d", "%s", "%*d", "%-*s", "%%", "a", "}", "%"}, 4, f)
	eachWord("%d%d%d%d%d%d%d", []string{"%d", "%*d", "a", "%%"}, 5, f)
}

// percentForms has percent forms of all types, with texts around fields, fields next to each other, and widths that are values.
var percentForms = []string{
	"", "a", "%%", "a%%{b}%%", "%d", "%5d|%-8s|%%", "%s%s", "%x%%", "%+05d", "%-+6d.", "% o", "%#X", "%c%c", "%-3c", "%.2s", "%6.1s", "%f", "%08.3f", "%+.1e",
	"%E", "%g", "%#.3g", "%G", "%*d", "%-*s", "%0*d", "%+#0*x", "%*.2f", "%*c", "%d%*d%s", "%*d%*d", "{%d}", "%s%%%d", "$%s",
}

// percentLists returns lists of values, with a width and without one ahead.
func percentLists() [][]impl.Value {
	values := []impl.Value{intOf(12), intOf(65), intOf(-7), intOf(0), decOf(dec(-125, -2)), textOf("ab"), textOf("5")}
	all := [][]impl.Value{nil}
	for _, first := range values {
		all = append(all, []impl.Value{first})
		for _, second := range append(slices.Clone(values), intOf(impl.MaxWidth), intOf(impl.MaxWidth+1), intOf(1)) {
			all = append(all, []impl.Value{first, second}, []impl.Value{second, first})
			for _, third := range []impl.Value{intOf(65), decOf(dec(5, 0)), textOf("x")} {
				all = append(all, []impl.Value{first, second, third}, []impl.Value{first, second, intOf(9), third})
			}
		}
	}
	return all
}

// filledOne is a percent form with values and what it gives.
type filledOne struct {
	s    string
	list []impl.Value
	text string
}

// filledForms returns each of percentForms with some of percentLists that fill it.
func filledForms(t *testing.T) []filledOne {
	t.Helper()
	all := []filledOne{}
	for _, s := range percentForms {
		found := 0
		for _, list := range percentLists() {
			if text, ok := filledForm(s, list); ok && found < 3 {
				all = append(all, filledOne{s, list, text})
				found++
			}
		}
		if found == 0 {
			t.Fatalf("no values for %q", s)
		}
	}
	return all
}
