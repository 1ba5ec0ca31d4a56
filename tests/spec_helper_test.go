package tests

import (
	"math"
	"regexp"
	"strconv"
	"strings"
	"testing"

	"loop.example/formatplans/impl"
)

// noMarks is the specification without anything.
var noMarks = impl.Spec{Prec: -1}

var kinds = []int{impl.VaInt, impl.VaDec, impl.VaText}

// badKinds are no kinds of values.
var badKinds = []int{-1, 3, math.MinInt, math.MaxInt}

// parts has the parts of the text of a specification, in order.
var parts = regexp.MustCompile(`^(?:([ -z|~]?)([<>^=]))?([-+ ]?)(#?)(0?)([1-9]|[12][0-9]|30)?([,_]?)(?:\.([0-9]))?([dboxXcsfeEgG%]?)$`)

// suits has, for each kind, the texts of the specifications that suit it.
var suits = map[int]*regexp.Regexp{
	impl.VaInt: regexp.MustCompile(`^([ -z|~]?[<>^=])?[-+ ]?#?0?([1-9][0-9]?)?(_?[dboxX]?|,d?)$` +
		`|^([ -z|~]?[<>^])?([1-9][0-9]?)?c$`),
	impl.VaDec: regexp.MustCompile(`^([ -z|~]?[<>^=])?[-+ ]?#?0?([1-9][0-9]?)?[,_]?(\.[0-9])?[feEgG%]$` +
		`|^([ -z|~]?[<>^=])?[-+ ]?0?([1-9][0-9]?)?[,_]?$`),
	impl.VaText: regexp.MustCompile(`^([ -z|~]?[<>^])?([1-9][0-9]?)?(\.[0-9])?s?$`),
}

// specOf returns the specification of a text by its parts.
func specOf(text string) (impl.Spec, bool) {
	m := parts.FindStringSubmatch(text)
	if m == nil {
		return impl.Spec{}, false
	}
	width, _ := strconv.Atoi(m[6])
	prec := -1
	if m[8] != "" {
		prec, _ = strconv.Atoi(m[8])
	}
	align := map[string]int{"<": impl.AlLeft, ">": impl.AlRight, "^": impl.AlCentre, "=": impl.AlInside}[m[2]]
	sign := map[string]int{"-": impl.SiMinus, "+": impl.SiPlus, " ": impl.SiSpace}[m[3]]
	group := map[string]int{",": impl.GrComma, "_": impl.GrLine}[m[7]]
	return impl.Spec{
		Fill: m[1], Align: align, Sign: sign, Alt: m[4] == "#", Zero: m[5] == "0",
		Width: width, Group: group, Prec: prec, Type: m[9],
	}, true
}

// mustParse returns the specification of a text that has one.
func mustParse(t *testing.T, text string) impl.Spec {
	t.Helper()
	s, ok := impl.ParseSpec(text)
	if !ok {
		t.Fatalf("ParseSpec(%q) fails", text)
	}
	return s
}

// fillsAndAligns calls f with the specification without anything, and with each alignment and each of these fills alone.
func fillsAndAligns(fills []string, f func(s impl.Spec)) {
	f(noMarks)
	for align := impl.AlLeft; align <= impl.AlInside; align++ {
		for _, fill := range fills {
			f(impl.Spec{Fill: fill, Align: align, Prec: -1})
		}
	}
}

// eachSpec calls f with valid specifications of all marks in all combinations, with some fills, widths and precisions.
func eachSpec(f func(s impl.Spec)) {
	types := append(strings.Split(impl.Types, ""), "")
	fillsAndAligns([]string{"", " ", "<", "=", "-", "+", "0", "#", ".", "9", "d"}, func(s impl.Spec) {
		for i := range 4 * 2 * 2 * 3 {
			s.Sign, s.Alt, s.Zero, s.Group = i%4, i/4%2 == 1, i/8%2 == 1, i/16
			for _, s.Width = range []int{0, 1, 10, 30} {
				for _, s.Prec = range []int{-1, 0, 9} {
					for _, s.Type = range types {
						f(s)
					}
				}
			}
		}
	})
}

// eachText calls f with start and with all texts that have it at their beginning and at most size of these bytes behind it.
func eachText(start string, bytes string, size int, f func(text string)) {
	f(start)
	for i := 0; i < len(bytes) && size > 0; i++ {
		eachText(start+bytes[i:i+1], bytes, size-1, f)
	}
}

// printableFills returns nothing and all bytes that can be a fill.
func printableFills() []string {
	fills := []string{""}
	for b := ' '; b <= '~'; b++ {
		if b != '{' && b != '}' {
			fills = append(fills, string(b))
		}
	}
	return fills
}

// invalidSpecs returns specifications that are not valid, each because of one field.
func invalidSpecs() []impl.Spec {
	bad := []impl.Spec{{Fill: "*", Prec: -1}, {Fill: "0", Zero: true, Width: 8, Prec: -1}}
	for _, fill := range []string{"{", "}", "\x7f", "\x1f", "\n", "\x00", "\x80", "\xff", "é", "\ufffd", "**", "  ", "<<"} {
		bad = append(bad, impl.Spec{Fill: fill, Align: impl.AlLeft, Prec: -1}, impl.Spec{Fill: fill, Prec: -1})
	}
	for _, n := range outOfRange(impl.AlNone, impl.AlInside) {
		bad = append(bad, impl.Spec{Align: n, Prec: -1}, impl.Spec{Fill: "*", Align: n, Prec: -1})
	}
	for _, n := range outOfRange(impl.SiNone, impl.SiSpace) {
		bad = append(bad, impl.Spec{Sign: n, Prec: -1})
	}
	for _, n := range outOfRange(impl.GrNone, impl.GrLine) {
		bad = append(bad, impl.Spec{Group: n, Prec: -1})
	}
	for _, n := range outOfRange(0, impl.MaxWidth) {
		bad = append(bad, impl.Spec{Width: n, Prec: -1})
	}
	for _, n := range outOfRange(-1, impl.MaxPrec) {
		bad = append(bad, impl.Spec{Prec: n})
	}
	for _, text := range []string{"a", "n", "D", "S", "F", "0", " ", "<", "bo", "dd", impl.Types, "\x00", "\x80", "é"} {
		bad = append(bad, impl.Spec{Type: text, Prec: -1})
	}
	return bad
}
