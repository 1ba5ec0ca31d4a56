package tests

import (
	"fmt"
	"math/big"
	"regexp"
	"strings"

	"loop.example/formatplans/impl"
)

// sampleAmounts has 0, the ends of groups and of powers, bytes, one of these with 32 bits more, and the limit.
var sampleAmounts = []int{
	0, 1, 7, 8, 10, 15, 16, 31, 32, 65, 99, 100, 126, 127, 255, 256, 999, 1000, 4095, 4096, 9999, 10000,
	65535, 65536, 123456, 999999, 1000000, 1048576, 4294967296 + 65, 549755813888, impl.MaxWhole - 1, impl.MaxWhole,
}

// sampleWholes returns whole numbers above and below 0.
func sampleWholes() []int {
	all := append([]int{}, sampleAmounts...)
	for _, n := range sampleAmounts[1:] {
		all = append(all, -n)
	}
	return all
}

// eachWholeSpec calls f with specifications for whole numbers of all marks in all combinations, with some fills and widths.
func eachWholeSpec(f func(s impl.Spec)) {
	fillsAndAligns([]string{"", "*", "0", "-"}, func(s impl.Spec) {
		for _, s.Width = range []int{0, 1, 8, 9, 30} {
			if s.Align != impl.AlInside {
				f(impl.Spec{Fill: s.Fill, Align: s.Align, Width: s.Width, Prec: -1, Type: "c"})
			}
			for i := range 4 * 2 * 2 * 3 {
				s.Sign, s.Alt, s.Zero, s.Group = i%4, i/4%2 == 1, i/8%2 == 1, i/16
				for _, s.Type = range []string{"", "d", "b", "o", "x", "X"} {
					if s.Group != impl.GrComma || s.Type == "" || s.Type == "d" {
						f(s)
					}
				}
			}
		}
	})
}

// digitsOf returns the digits of a number of at least 0, without a limit.
func digitsOf(n int, base int) string {
	return big.NewInt(int64(n)).Text(base)
}

// groupedBy returns a text with the mark after each byte behind which there are full groups alone.
func groupedBy(s string, n int, sep string) string {
	out := ""
	for i := range len(s) {
		if i > 0 && (len(s)-i)%n == 0 {
			out += sep
		}
		out += s[i : i+1]
	}
	return out
}

// widenedBy puts a zero ahead until the text with its groups is wide enough.
func widenedBy(s string, width int, n int, sep string) string {
	for len(groupedBy(s, n, sep)) < width {
		s = "0" + s
	}
	return groupedBy(s, n, sep)
}

// filledBy puts one fill after the other at the sides of a text, at first behind it if they are both due.
func filledBy(text string, width int, fill string, align int) string {
	behind := align != impl.AlRight
	for len(text) < width {
		if behind {
			text += fill
		} else {
			text = fill + text
		}
		if align == impl.AlCentre {
			behind = !behind
		}
	}
	return text
}

// signsOfOthers has the signs of numbers of at least 0.
var signsOfOthers = map[int]string{impl.SiPlus: "+", impl.SiSpace: " "}

// wholeText returns what FormatWhole is to give for a number in the limits, by a specification that suits.
func wholeText(s impl.Spec, n int) string {
	align := impl.AlignFor(s, impl.VaInt)
	if s.Type == "c" {
		if n < 32 || n > 126 {
			return ""
		}
		return filledBy(fmt.Sprintf("%c", n), s.Width, impl.FillFor(s), align)
	}
	head := signsOfOthers[s.Sign]
	if n < 0 {
		head, n = "-", -n
	}
	verb, size := "%d", 3
	if s.Type != "" && s.Type != "d" {
		verb, size = "%"+s.Type, 4
		if s.Alt {
			head += "0" + s.Type
		}
	}
	return numberText(s, align, head, fmt.Sprintf(verb, n), "", size)
}

// numberText puts a number together: its head, its digits with groups of size, and the rest behind them, filled up by an alignment.
func numberText(s impl.Spec, align int, head string, digits string, rest string, size int) string {
	fill, sep := impl.FillFor(s), []string{"", ",", "_"}[s.Group]
	body := groupedBy(digits, size, sep) + rest
	if align != impl.AlInside {
		return filledBy(head+body, s.Width, fill, align)
	}
	if fill == "0" {
		return head + widenedBy(digits, s.Width-len(head)-len(rest), size, sep) + rest
	}
	return head + filledBy(body, s.Width-len(head), fill, impl.AlRight)
}

// readTypes has what ReadWhole takes for each type and group: a sign, two bytes and digits.
var readTypes = map[string]*regexp.Regexp{
	"":   regexp.MustCompile(`^[-+ ]?()([0-9]+)$`),
	"d":  regexp.MustCompile(`^[-+ ]?()([0-9]+)$`),
	"b":  regexp.MustCompile(`^[-+ ]?(0b)?([01]+)$`),
	"o":  regexp.MustCompile(`^[-+ ]?(0o)?([0-7]+)$`),
	"x":  regexp.MustCompile(`^[-+ ]?(0x)?([0-9a-fA-F]+)$`),
	"X":  regexp.MustCompile(`^[-+ ]?(0X)?([0-9a-fA-F]+)$`),
	",":  regexp.MustCompile(`^[-+ ]?()([0-9]{1,3}(,[0-9]{3})*)$`),
	",d": regexp.MustCompile(`^[-+ ]?()([0-9]{1,3}(,[0-9]{3})*)$`),
	"_":  regexp.MustCompile(`^[-+ ]?()([0-9]{1,3}(_[0-9]{3})*)$`),
	"_d": regexp.MustCompile(`^[-+ ]?()([0-9]{1,3}(_[0-9]{3})*)$`),
	"_b": regexp.MustCompile(`^[-+ ]?(0b)?([01]{1,4}(_[01]{4})*)$`),
	"_o": regexp.MustCompile(`^[-+ ]?(0o)?([0-7]{1,4}(_[0-7]{4})*)$`),
	"_x": regexp.MustCompile(`^[-+ ]?(0x)?([0-9a-fA-F]{1,4}(_[0-9a-fA-F]{4})*)$`),
	"_X": regexp.MustCompile(`^[-+ ]?(0X)?([0-9a-fA-F]{1,4}(_[0-9a-fA-F]{4})*)$`),
}

// wholeOf returns what ReadWhole is to give for a text of at most MaxText bytes, by a specification of a type and a group alone.
func wholeOf(spec string, text string) (int, bool) {
	m := readTypes[spec].FindStringSubmatch(text)
	if m == nil {
		return 0, false
	}
	base := map[string]int{"b": 2, "o": 8, "x": 16, "X": 16}[strings.TrimLeft(spec, ",_")]
	if base == 0 {
		base = 10
	}
	amount, _ := new(big.Int).SetString(strings.NewReplacer(",", "", "_", "").Replace(m[2]), base)
	if amount.Cmp(big.NewInt(impl.MaxWhole)) > 0 {
		return 0, false
	}
	if text[0] == '-' {
		amount.Neg(amount)
	}
	return int(amount.Int64()), true
}
