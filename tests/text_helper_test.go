package tests

import (
	"math"
	"regexp"
	"strings"

	"loop.example/formatplans/impl"
)

// sides has the alignments of texts.
var sides = []int{impl.AlLeft, impl.AlRight, impl.AlCentre}

// notSides has no alignment of a text.
var notSides = []int{impl.AlNone, impl.AlInside, impl.AlNone - 1, impl.AlInside + 1, math.MinInt, math.MaxInt}

// textFills has the ends of the printable bytes, some with a meaning elsewhere, and the two that no specification has.
var textFills = []string{" ", "~", "*", "0", "a", "'", "\\", "<", "|", "{", "}"}

// notFills are no printable byte.
var notFills = []string{"", "**", "  ", "ab", "\x00", "\n", "\x1f", "\x7f", "\x80", "\xff", "é"}

// edgeTexts has the empty text, texts with the ends of the printable bytes, and those with just the most bytes and one less.
var edgeTexts = []string{
	"", " ", "!", "}", "~", "{", "a", "ab", "abc", "  ab ", " a b ", "*", "**", "***a**", "a*b", "00100", "aaa", "{}", "|a|", "<^>=", "\\", "'",
	strings.Repeat("a", impl.MaxWidth-1), strings.Repeat("*", impl.MaxWidth), strings.Repeat("b", impl.MaxWidth+1),
	strings.Repeat(" ", impl.MaxText-1), strings.Repeat("~", impl.MaxText-1), strings.Repeat(" ", impl.MaxText), strings.Repeat("~", impl.MaxText),
	strings.Repeat("*a", impl.MaxText/2),
}

// sampleTexts returns edgeTexts and all texts of at most 5 of some bytes.
func sampleTexts() []string {
	all := append([]string{}, edgeTexts...)
	eachText("", "a* '\\", 5, func(text string) { all = append(all, text) })
	return all
}

// notTexts returns what is too long, and what has a byte that is not printable at its beginning, in its middle or at its end.
func notTexts() []string {
	bad := []string{
		strings.Repeat("a", impl.MaxText+1), strings.Repeat(" ", impl.MaxText+1), strings.Repeat("ab", impl.MaxText), strings.Repeat("~", 1000),
		strings.Repeat("a", impl.MaxText-1) + "\n", "\n" + strings.Repeat("a", impl.MaxText-1), strings.Repeat("é", impl.MaxText/2),
	}
	for _, b := range []byte{0, 1, '\t', '\n', '\r', 0x1f, 0x7f, 0x80, 0xa0, 0xc3, 0xff} {
		s := string([]byte{b})
		bad = append(bad, s, s+"ab", "a"+s+"b", "ab"+s)
	}
	return append(bad, "é", "a\u00a0b", "\u2028", "\ufffd", "ａ")
}

// strippedBy takes one fill after the other off the ends that an alignment tells.
func strippedBy(text string, fill string, align int) string {
	for align != impl.AlRight && text != "" && text[len(text)-1:] == fill {
		text = text[:len(text)-1]
	}
	for align != impl.AlLeft && text != "" && text[:1] == fill {
		text = text[1:]
	}
	return text
}

// quotedBy puts a text between quotes byte by byte.
func quotedBy(text string) string {
	out := "'"
	for _, b := range []byte(text) {
		if b == '\'' || b == '\\' {
			out += "\\"
		}
		out += string([]byte{b})
	}
	return out + "'"
}

// quotedPattern has what UnquoteText takes: between quotes printable bytes, or a backslash ahead of a quote or a backslash.
var quotedPattern = regexp.MustCompile(`^'((?:[ -&(-\[\]-~]|\\'|\\\\)*)'$`)

// escaped is a byte with a backslash ahead.
var escaped = regexp.MustCompile(`\\(.)`)

// unquotedOf returns what UnquoteText is to give.
func unquotedOf(s string) (string, bool) {
	m := quotedPattern.FindStringSubmatch(s)
	if m == nil {
		return "", false
	}
	text := escaped.ReplaceAllString(m[1], "$1")
	if len(text) > impl.MaxText {
		return "", false
	}
	return text, true
}

// eachTextSpec calls f with specifications for texts of all marks in all combinations, with some fills, widths and precisions.
func eachTextSpec(f func(s impl.Spec)) {
	fillsAndAligns([]string{"", " ", "*", "0", "~", "a"}, func(s impl.Spec) {
		if s.Align == impl.AlInside {
			return
		}
		for _, s.Width = range []int{0, 1, 2, 3, 4, 5, 8, 29, 30} {
			for s.Prec = -1; s.Prec <= impl.MaxPrec; s.Prec++ {
				for _, s.Type = range []string{"", "s"} {
					f(s)
				}
			}
		}
	})
}

// unsuitedForTexts returns specifications that do not suit texts.
func unsuitedForTexts() []impl.Spec {
	bad := invalidSpecs()
	for _, text := range []string{"d", "b", "o", "x", "X", "c", "f", "e", "E", "g", "G", "%", "=", "*=5", "=5s", "+", "-", " ", "#", "0", "05", "05s", ",", "_", "+s", ",s", "5.2f"} {
		s, _ := specOf(text)
		bad = append(bad, s)
	}
	return bad
}
