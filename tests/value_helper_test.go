package tests

import (
	"math"
	"strconv"
	"strings"

	"loop.example/formatplans/impl"
)

func intOf(n int) impl.Value {
	return impl.Value{Kind: impl.VaInt, Int: n}
}

func decOf(d impl.Dec) impl.Value {
	return impl.Value{Kind: impl.VaDec, Dec: d}
}

func textOf(s string) impl.Value {
	return impl.Value{Kind: impl.VaText, Text: s}
}

// sampleValues returns valid values of all kinds, with those at the limits and around the ends of the printable bytes.
func sampleValues() []impl.Value {
	all := []impl.Value{}
	for _, n := range append(sampleWholes(), 33, 125, -32, -65) {
		all = append(all, intOf(n))
	}
	for _, d := range realDecs {
		all = append(all, decOf(d))
	}
	for _, s := range edgeTexts {
		all = append(all, textOf(s))
	}
	return all
}

// fewValues has values that are few enough to be looked at with many specifications.
var fewValues = []impl.Value{
	intOf(0), intOf(31), intOf(32), intOf(65), intOf(126), intOf(127), intOf(-65), intOf(1234567), intOf(-impl.MaxWhole),
	decOf(dec(0, 0)), decOf(dec(-4, -2)), decOf(dec(123456789, -2)), decOf(dec(-999999999, 12)),
	textOf(""), textOf("abcdef"), textOf("it's"), textOf("{}"), textOf(strings.Repeat("\\", impl.MaxText)),
}

// notValues returns values that are not valid, each because of one field.
func notValues() []impl.Value {
	bad := []impl.Value{
		{Kind: impl.VaInt, Text: "a"}, {Kind: impl.VaInt, Int: 1, Text: " "}, {Kind: impl.VaInt, Dec: dec(1, 0)}, {Kind: impl.VaInt, Dec: dec(0, 1)},
		{Kind: impl.VaInt, Dec: impl.Dec{Neg: true}}, {Kind: impl.VaInt, Int: 65, Dec: dec(-1, 0)},
		{Kind: impl.VaDec, Int: 1}, {Kind: impl.VaDec, Int: -1, Dec: dec(1, 0)}, {Kind: impl.VaDec, Text: "1"}, {Kind: impl.VaDec, Dec: dec(5, -1), Text: "0.5"},
		{Kind: impl.VaText, Int: 1}, {Kind: impl.VaText, Int: -1, Text: "a"}, {Kind: impl.VaText, Dec: dec(1, 0)}, {Kind: impl.VaText, Dec: dec(0, -1), Text: "a"},
		{Kind: impl.VaText, Dec: impl.Dec{Neg: true}, Text: "a"},
	}
	for _, n := range outOfRange(-impl.MaxWhole, impl.MaxWhole) {
		bad = append(bad, intOf(n))
	}
	for _, d := range invalidDecs() {
		bad = append(bad, decOf(d))
	}
	for _, s := range notTexts() {
		bad = append(bad, textOf(s))
	}
	for _, kind := range badKinds {
		bad = append(bad, impl.Value{Kind: kind}, impl.Value{Kind: kind, Int: 1}, impl.Value{Kind: kind, Dec: dec(1, 0)}, impl.Value{Kind: kind, Text: "a"})
	}
	return append(bad, intOf(math.MinInt), textOf("\n"))
}

// suitsBy reports whether a valid specification suits a kind, by the pattern of its text.
func suitsBy(s impl.Spec, kind int) bool {
	return suits[kind].MatchString(impl.SpecText(s))
}

// longTextBy returns the text of a text of any length by a specification that suits texts.
func longTextBy(s impl.Spec, text string) string {
	if s.Prec >= 0 {
		text = text[:min(s.Prec, len(text))]
	}
	return filledBy(text, s.Width, impl.FillFor(s), impl.AlignFor(s, impl.VaText))
}

// valueText returns what FormatValue is to give for a valid value by a valid specification.
func valueText(s impl.Spec, v impl.Value) (string, bool) {
	if !suitsBy(s, v.Kind) {
		return "", false
	}
	switch v.Kind {
	case impl.VaInt:
		text := wholeText(s, v.Int)
		return text, text != ""
	case impl.VaDec:
		return realText(s, v.Dec), true
	}
	return longTextBy(s, v.Text), true
}

// bareOf returns the text of a valid value without any specification.
func bareOf(v impl.Value) string {
	switch v.Kind {
	case impl.VaInt:
		return strconv.Itoa(v.Int)
	case impl.VaDec:
		text := impl.PlainText(v.Dec)
		if v.Dec.Neg {
			text = "-" + text
		}
		return text
	}
	return v.Text
}
