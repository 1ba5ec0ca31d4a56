package tests

import (
	"cmp"
	"regexp"
	"slices"
	"strings"

	"loop.example/formatplans/impl"
)

// scanned has, for each kind, the texts of the specifications by which its values are read.
var scanned = map[int]*regexp.Regexp{
	impl.VaInt:  regexp.MustCompile(`^([ -z|~]?[<>^=])?[-+ ]?#?0?(_?[dboxX]|,d)$`),
	impl.VaDec:  regexp.MustCompile(`^([ -z|~]?[<>^=])?[-+ ]?#?0?[,_]?(\.[0-9])?[feEgG%]$`),
	impl.VaText: regexp.MustCompile(`^([ -z|~]?[<>^])?(\.[0-9])?s?$`),
}

// scannedKind returns the kind whose values are read by the specification of a text; false if there is none.
func scannedKind(spec string) (int, bool) {
	for _, kind := range kinds {
		if scanned[kind].MatchString(spec) {
			return kind, true
		}
	}
	return 0, false
}

// readBy returns what ReadValue is to give for the specification of a text, and for a text of at most MaxText printable bytes.
func readBy(spec string, text string) (impl.Value, bool) {
	kind, ok := scannedKind(spec)
	if !ok {
		return impl.Value{}, false
	}
	s, _ := specOf(spec)
	mark := []string{"", ",", "_"}[s.Group]
	var v impl.Value
	switch kind {
	case impl.VaInt:
		n, found := wholeOf(mark+s.Type, text)
		v, ok = intOf(n), found
	case impl.VaDec:
		d, found := realOf(strings.Join(strings.Split(text, mark), ""))
		if mark == "" {
			d, found = realOf(text)
		}
		v, ok = decOf(d), found
	default:
		v = textOf(text)
	}
	if !ok {
		return impl.Value{}, false
	}
	if back, _ := valueText(s, v); back != text {
		return impl.Value{}, false
	}
	return v, true
}

// specOfField returns the text of the specification of a field without fields in it.
func specOfField(p impl.Piece) string {
	text := ""
	for _, sub := range p.Subs {
		text += sub.Text
	}
	return text
}

// canScanBy returns what CanScan is to give.
func canScanBy(t impl.Template) bool {
	for _, p := range t.Pieces {
		_, ok := scannedKind(specOfField(p))
		hasFields := slices.ContainsFunc(p.Subs, func(sub impl.Sub) bool { return sub.Field })
		if p.Field && (!ok || hasFields || p.Name != "" || p.Conv != "") {
			return false
		}
	}
	return isTemplate(t)
}

// eachCut calls f with all lists of so many texts that are a text together.
func eachCut(text string, count int, f func(cuts []string)) {
	if count == 0 {
		if text == "" {
			f(nil)
		}
		return
	}
	for at := range len(text) + 1 {
		eachCut(text[:at], count-1, func(cuts []string) { f(append(slices.Clone(cuts), text[at:])) })
	}
}

// way is a way to scan a text: the values, and the lengths of their texts.
type way struct {
	values  []impl.Value
	lengths []int
}

// wayBy returns the way in which pieces have these texts.
func wayBy(pieces []impl.Piece, cuts []string) (way, bool) {
	var w way
	for i, p := range pieces {
		if !p.Field {
			if cuts[i] != p.Text {
				return way{}, false
			}
			continue
		}
		v, ok := readBy(specOfField(p), cuts[i])
		if !ok {
			return way{}, false
		}
		w.values = append(w.values, v)
		w.lengths = append(w.lengths, len(cuts[i]))
	}
	return w, true
}

// waysBy returns what ScanAll is to give, with no limit, for a template that can be scanned: it tries all cuts, and sorts.
func waysBy(t impl.Template, text string) [][]impl.Value {
	var ways []way
	eachCut(text, len(t.Pieces), func(cuts []string) {
		if w, ok := wayBy(t.Pieces, cuts); ok {
			ways = append(ways, w)
		}
	})
	slices.SortFunc(ways, func(a way, b way) int { return slices.Compare(a.lengths, b.lengths) })
	var lists [][]impl.Value
	for _, w := range ways {
		lists = append(lists, w.values)
	}
	return lists
}

func sameLists(a [][]impl.Value, b [][]impl.Value) bool {
	return slices.EqualFunc(a, b, slices.Equal[[]impl.Value])
}

func cloneLists(lists [][]impl.Value) [][]impl.Value {
	var all [][]impl.Value
	for _, list := range lists {
		all = append(all, slices.Clone(list))
	}
	return all
}

// bareLists writes lists of values: each value between [ and ], and a ; behind each list.
func bareLists(lists [][]impl.Value) string {
	out := ""
	for _, list := range lists {
		for _, v := range list {
			out += "[" + bareOf(v) + "]"
		}
		out += ";"
	}
	return out
}

// scan is a template that can be scanned, with its text, a text, and all ways to scan that.
type scan struct {
	s    string
	t    impl.Template
	text string
	ways [][]impl.Value
}

// longScans has templates and texts with many ways, or with pieces that few texts have.
var longScans = [][2]string{
	{"{}{}{}", "abcdefghij"}, {"{}{}{}{}", "aaaaaaaa"}, {"{:d}{:d}{:d}", "123456789"}, {"{:.1}{:.2}{:.3}", "abcdef"}, {"{}a{}a{}", "aaaaaaa"},
	{"{:x}{:X}{:b}", "1fF01"}, {"{:d}{}{:d}", "12a34-5"}, {"{}, {}, {}", "a, b, c, d"}, {"{:,d}{:,d}", "1,234,567"}, {"{:_x}_{:_b}", "f_ffff_1_0000"},
	{"{:.1f}{:.1f}", "1.52.5"}, {"{:.1f}{}", "-1.5-2.5"}, {"{:g}{:g}", "1e+20.5"}, {"{:.0%}{}", "50%25%"}, {"{:+d}{:+d}{:+d}", "+1-2+3"}, {"{: d}{: d}", " 1 2"},
	{"{{{}}}", "{}}"}, {"{}}}{{{}", "}{}{"}, {"{:#x}{:#o}", "0x10o1"}, {"{:d}{:s}{:f}", "101.000000"}, {"a{}b{}c", "abbbbc"}, {"{:*<s}{:^.1s}", "***"},
}

// eachScan calls f with templates that can be scanned, and with texts.
func eachScan(f func(c scan)) {
	words := []string{"{}", "{:d}", "{:+d}", "{:x}", "{:.1f}", "{:.1}", "1", "a", "{{"}
	eachWord("", words, 3, func(s string) {
		t, ok := impl.ParseTemplate(s)
		if !ok {
			return
		}
		eachText("", "1a{", 3, func(text string) { f(scan{s, t, text, waysBy(t, text)}) })
		for _, text := range []string{"-1", "+1", "1.1", "1.11", "+1a1", "0.01", "1111", "{1a}", "a0"} {
			f(scan{s, t, text, waysBy(t, text)})
		}
	})
	for _, c := range longScans {
		t, _ := impl.ParseTemplate(c[0])
		f(scan{c[0], t, c[1], waysBy(t, c[1])})
	}
}

// compareLists tells lists of values apart.
func compareLists(a []impl.Value, b []impl.Value) int {
	return slices.CompareFunc(a, b, func(v impl.Value, w impl.Value) int {
		return cmp.Or(cmp.Compare(v.Kind, w.Kind), cmp.Compare(v.Int, w.Int), impl.CompareDec(v.Dec, w.Dec), cmp.Compare(v.Text, w.Text))
	})
}

// linePatterns has the two forms of lines of a desk that are answered.
var (
	readPattern  = regexp.MustCompile(`^read ([^ ]*)$`)
	writePattern = regexp.MustCompile(`^(whole|real|text) ([^ ]+) ([^ ]*)$`)
)

// writtenBy returns the answer to a line that writes the value of a text by a specification.
func writtenBy(word string, spec string, text string) string {
	if spec == "@" {
		spec = ""
	}
	s, specOK := specOf(spec)
	v, ok := textOf(text), true
	switch word {
	case "whole":
		v.Kind, v.Text = impl.VaInt, ""
		v.Int, ok = wholeOf("d", text)
	case "real":
		v.Kind, v.Text = impl.VaDec, ""
		v.Dec, ok = realOf(text)
	}
	if !specOK || !ok {
		return "no"
	}
	out, ok := valueText(s, v)
	if !ok {
		return "no"
	}
	return "[" + out + "]"
}

// answerBy returns what RunDesk is to give for one line, without the newline.
func answerBy(line string) string {
	if m := readPattern.FindStringSubmatch(line); m != nil {
		d, ok := realOf(m[1])
		if !ok {
			return "no"
		}
		return bareOf(decOf(d))
	}
	if m := writePattern.FindStringSubmatch(line); m != nil {
		return writtenBy(m[1], m[2], m[3])
	}
	return "what"
}
