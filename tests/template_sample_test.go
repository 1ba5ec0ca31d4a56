package tests

import (
	"slices"
	"strings"

	"loop.example/formatplans/impl"
)

// samplePieces has texts with braces, and fields with all names, conversions and specifications.
func samplePieces() []impl.Piece {
	all := []impl.Piece{}
	for _, text := range []string{"a", " ", "{", "}", "{}", "}{", "{{", "a{b}c", "!r:"} {
		all = append(all, wordsOf(text))
	}
	for _, name := range []string{"", "9", "a", "abcd"} {
		all = append(all, fieldOf(name, ""), fieldOf(name, "r"), fieldOf(name, "s", subText(">5")))
		for _, other := range []string{"", "1", "b"} {
			all = append(all, fieldOf(name, "", subField(other)))
		}
	}
	return append(all, fieldOf("0", "", subText("*<"), subField("b"), subText("."), subField("c")), fieldOf("", "s", subField("a"), subField("b"), subText("s")))
}

// eachTemplate calls f with all templates of at most 3 of samplePieces, of which some are not valid.
func eachTemplate(f func(t impl.Template)) {
	pieces := samplePieces()
	f(impl.Template{})
	for _, first := range pieces {
		f(templateOf(first))
		for _, second := range pieces {
			f(templateOf(first, second))
			for _, third := range pieces {
				f(templateOf(first, second, third))
			}
		}
	}
}

// fieldsOf returns so many fields with no names.
func fieldsOf(count int) []impl.Piece {
	return slices.Repeat([]impl.Piece{fieldOf("", "")}, count)
}

// longTemplates returns templates of MaxPieces pieces, and of MaxTemplate bytes and a few less.
func longTemplates() []impl.Template {
	all := []impl.Template{templateOf(fieldsOf(impl.MaxPieces)...), templateOf(slices.Repeat([]impl.Piece{wordsOf("a"), fieldOf("a", "")}, impl.MaxPieces/2)...)}
	for _, less := range []int{0, 1, 2, 3} {
		size := impl.MaxTemplate - less
		all = append(all,
			templateOf(wordsOf(strings.Repeat("a", size))),
			templateOf(wordsOf(strings.Repeat("{", size/2))),
			templateOf(fieldOf("a", "r", subText(strings.Repeat("9", size-6)))),
			templateOf(fieldOf("", ""), wordsOf(strings.Repeat("}", (size-4)/2)), fieldOf("", "")),
			templateOf(fieldOf("", "", slices.Repeat([]impl.Sub{subField("")}, (size-3)/2)...)),
		)
	}
	return all
}

// badNames are no names of fields.
var badNames = []string{
	"10", "00", "01", "a1", "1a", "abc1", "abcde", "abcdefgh", "0123", "A", "aA", "Zz", "abcD", " ", "a ", " a", "-", "-1", "_", "a_b", "a.b",
	"`", "{", "}", "{}", "a{", "!", ":", "/", "\x00", "a\n", "\x7f", "\x80", "\xff", "é", "aé", "ａ", "٣", strings.Repeat("a", 1000),
}

// badPieces returns pieces that are not valid, each because of one field.
func badPieces() []impl.Piece {
	subs := []impl.Sub{subText(">5")}
	bad := []impl.Piece{
		{}, {Text: "a", Name: "a"}, {Text: "a", Name: "0"}, {Text: "a", Conv: "s"}, {Text: "a", Conv: "r"}, {Text: "a", Subs: subs},
		{Text: "a", Subs: []impl.Sub{subField("")}}, {Text: "a", Subs: []impl.Sub{{}}}, {Name: "a"}, {Conv: "s"}, {Subs: subs},
		{Field: true, Text: "a"}, {Field: true, Text: " ", Name: "a"}, {Field: true, Text: "{a}", Conv: "s", Subs: subs},
	}
	for _, text := range []string{"\n", "a\x00", "\x1fa", "a\x7fb", "\x80", "\xff", "é", "a\u00a0"} {
		bad = append(bad, wordsOf(text))
	}
	for _, name := range badNames {
		bad = append(bad, fieldOf(name, ""), fieldOf(name, "r", subs...))
	}
	for _, conv := range []string{"a", "d", "S", "R", "ss", "sr", "rr", " ", "!", ":", "}", "\x00", "\xff", "é"} {
		bad = append(bad, fieldOf("", conv), fieldOf("a", conv, subs...))
	}
	for _, sub := range badSubs() {
		bad = append(bad, fieldOf("a", "", sub), fieldOf("a", "", sub, subField("a")), fieldOf("a", "s", subField("a"), sub))
	}
	two := []impl.Sub{subText("*"), subText("<")}
	return append(bad, fieldOf("a", "", two...), fieldOf("a", "", subField("b"), two[0], two[1]), fieldOf("a", "", two[0], two[1], subField("b")))
}

// badSubs returns pieces of specifications that are not valid, each because of one field.
func badSubs() []impl.Sub {
	bad := []impl.Sub{
		{}, {Name: "a"}, {Text: "5", Name: "a"}, {Text: "5", Name: "0"}, {Field: true, Text: "5"}, {Field: true, Text: " ", Name: "a"},
	}
	for _, text := range []string{"{", "}", "{}", "{{", "}}", "{<5", "*<}", "a{b", "\n", "5\x00", "\x1f", "\x7f", "\x80", "é"} {
		bad = append(bad, subText(text))
	}
	for _, name := range badNames {
		bad = append(bad, subField(name))
	}
	return bad
}

// notTemplates returns templates that are not valid, each because of one fault.
func notTemplates() []impl.Template {
	a, b, field := wordsOf("a"), wordsOf("b"), fieldOf("a", "")
	bad := []impl.Template{
		templateOf(a, b), templateOf(a, a), templateOf(field, a, b), templateOf(a, b, field), templateOf(field, wordsOf("{"), wordsOf("}"), field),
		templateOf(fieldsOf(impl.MaxPieces + 1)...), templateOf(fieldsOf(1000)...),
		templateOf(append(slices.Repeat([]impl.Piece{a, field}, impl.MaxPieces/2), b)...),
		templateOf(wordsOf(strings.Repeat("a", impl.MaxTemplate+1))),
		templateOf(wordsOf(strings.Repeat("{", impl.MaxTemplate/2+1))),
		templateOf(wordsOf(strings.Repeat("}", impl.MaxTemplate/2)), fieldOf("", "")),
		templateOf(fieldOf("a", "r", subText(strings.Repeat("9", impl.MaxTemplate-5)))),
		templateOf(fieldOf("", "", slices.Repeat([]impl.Sub{subField("")}, impl.MaxTemplate/2-1)...)),
		templateOf(fieldOf("", ""), fieldOf("0", "")), templateOf(fieldOf("9", ""), a, fieldOf("b", ""), fieldOf("", "")),
		templateOf(fieldOf("", "", subField("0"))), templateOf(fieldOf("0", "", subField(""))),
		templateOf(fieldOf("a", "", subField("")), fieldOf("1", "")), templateOf(fieldOf("", ""), fieldOf("a", "", subText("<"), subField("1"))),
		templateOf(fieldOf("a", "", subField(""), subField("5"))), templateOf(fieldOf("a", "", subField("5")), fieldOf("b", "", subField(""))),
	}
	for _, p := range badPieces() {
		bad = append(bad, templateOf(p), templateOf(p, field), templateOf(field, p))
		if p.Field {
			bad = append(bad, templateOf(a, p, b))
		}
	}
	return bad
}

// argsSample returns valid arguments, and some that have as many values as may be.
func argsSample() []impl.Args {
	list := []impl.Value{intOf(5), textOf("x{y}"), decOf(dec(-125, -2)), intOf(3), textOf("it's"), textOf(""), intOf(-70), intOf(8), textOf(".1f"), textOf("<4")}
	named := []impl.Arg{{Name: "a", Value: intOf(65)}, {Name: "b", Value: intOf(4)}, {Name: "c", Value: intOf(1)}, {Name: "abcd", Value: textOf("}'{")}}
	return []impl.Args{
		{}, {List: list[:1]}, {List: list}, {Named: named}, {Named: named[:1]}, {Named: named[1:]}, {List: list, Named: named},
		{List: list[1:], Named: []impl.Arg{{Name: "a", Value: textOf("")}, {Name: "b", Value: textOf("=+5")}, {Name: "c", Value: textOf("3")}, {Name: "abcd", Value: decOf(dec(5, 1))}}},
		{List: list[2:], Named: []impl.Arg{{Name: "b", Value: textOf("{<5")}, {Name: "a", Value: textOf(strings.Repeat("\\", impl.MaxText))}, {Name: "c", Value: textOf("9")}}},
	}
}
