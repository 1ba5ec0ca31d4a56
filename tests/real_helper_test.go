package tests

import (
	"fmt"
	"math/big"
	"regexp"
	"strconv"
	"strings"

	"loop.example/formatplans/impl"
)

// shownAmount is an amount as it is shown: the digits ahead of the point, those behind it, and the power of ten or %.
type shownAmount struct {
	ahead, behind, tail string
}

// text puts the parts together, with a point without digits behind it only if alt is true.
func (a shownAmount) text(alt bool) string {
	if a.behind == "" && !alt {
		return a.ahead + a.tail
	}
	return a.ahead + "." + a.behind + a.tail
}

// trimmed leaves out zeros at the end of the digits behind the point.
func (a shownAmount) trimmed() shownAmount {
	return shownAmount{a.ahead, strings.TrimRight(a.behind, "0"), a.tail}
}

func (a shownAmount) isZero() bool {
	return strings.Trim(a.ahead+a.behind, "0") == ""
}

// unitsOf returns a decimal without its sign as a number of units.
func unitsOf(d impl.Dec) *big.Int {
	n := exactOf(d)
	return n.Abs(n)
}

// absOf returns a decimal without its sign.
func absOf(d impl.Dec) impl.Dec {
	d.Neg = false
	return d
}

// leadOf returns the power of ten of the first digit of a number of units above 0.
func leadOf(n *big.Int) int {
	return len(n.String()) - 1 + baseExp
}

// fixedBy shows a number of units rounded to places behind the point.
func fixedBy(n *big.Int, places int) shownAmount {
	digits := new(big.Int).Quo(roundedTo(n, -places), powerOfTen(-places-baseExp)).String()
	for len(digits) <= places {
		digits = "0" + digits
	}
	return shownAmount{ahead: digits[:len(digits)-places], behind: digits[len(digits)-places:]}
}

// expBy shows a number of units rounded to its first digit and places more, and returns the power of ten, too.
func expBy(n *big.Int, places int) (shownAmount, int) {
	power := 0
	if n.Sign() > 0 {
		n = roundedTo(n, leadOf(n)-places)
		power = leadOf(n)
	}
	digits := n.String() + strings.Repeat("0", places)
	return shownAmount{digits[:1], digits[1 : places+1], fmt.Sprintf("e%+03d", power)}, power
}

// generalBy shows a number of units rounded to digits, with all zeros.
func generalBy(n *big.Int, digits int) shownAmount {
	a, power := expBy(n, digits-1)
	if power < -4 || power >= digits {
		return a
	}
	if n.Sign() > 0 {
		n = roundedTo(n, leadOf(n)-digits+1)
	}
	return fixedBy(n, digits-1-power)
}

// amountBy shows a decimal by a specification that suits.
func amountBy(s impl.Spec, d impl.Dec) shownAmount {
	n, prec := unitsOf(d), s.Prec
	if prec == -1 {
		prec = 6
	}
	var a shownAmount
	switch strings.ToLower(s.Type) {
	case "":
		a = fixedBy(n, impl.MaxExp).trimmed()
	case "f":
		a = fixedBy(n, prec)
	case "%":
		a = fixedBy(n.Mul(n, big.NewInt(100)), prec)
		a.tail = "%"
	case "e":
		a, _ = expBy(n, min(prec, impl.MaxPrec-1))
	case "g":
		a = generalBy(n, max(prec, 1))
		if !s.Alt {
			a = a.trimmed()
		}
	}
	if s.Type == "E" || s.Type == "G" {
		a.tail = strings.Replace(a.tail, "e", "E", 1)
	}
	return a
}

// realSign returns the sign of a decimal that is shown so.
func realSign(s impl.Spec, d impl.Dec, a shownAmount) string {
	if d.Neg && !a.isZero() {
		return "-"
	}
	return signsOfOthers[s.Sign]
}

// realText returns what FormatReal is to give for a valid decimal, by a specification that suits.
func realText(s impl.Spec, d impl.Dec) string {
	a := amountBy(s, d)
	rest := strings.TrimPrefix(a.text(s.Alt), a.ahead)
	return numberText(s, impl.AlignFor(s, impl.VaDec), realSign(s, d, a), a.ahead, rest, 3)
}

// realTypes has the types of decimals that can have a precision.
var realTypes = []string{"f", "e", "E", "g", "G", "%"}

// eachRealSpec calls f with specifications for decimals of all marks in all combinations, with some fills, widths and precisions.
func eachRealSpec(widths []int, f func(s impl.Spec)) {
	fillsAndAligns([]string{"", "*", "0"}, func(s impl.Spec) {
		for _, s.Width = range widths {
			for i := range 4 * 2 * 3 {
				s.Sign, s.Zero, s.Group = i%4, i/4%2 == 1, i/8
				s.Alt, s.Prec, s.Type = false, -1, ""
				f(s)
				for _, s.Alt = range []bool{false, true} {
					for _, s.Prec = range []int{-1, 0, impl.MaxPrec} {
						for _, s.Type = range realTypes {
							f(s)
						}
					}
				}
			}
		}
	})
}

// realDecs has forms of 0, what is shown as 0 and what just is not, halves, nines to carry over, the ends of groups, and the limits.
var realDecs = []impl.Dec{
	dec(0, 0), dec(0, 12), dec(0, -12), dec(1, 0), dec(-4, -2), dec(-5, -2), dec(-6, -2), dec(-4, -3), dec(5, -1), dec(-25, -1),
	dec(95, -1), dec(-9995, -2), dec(99995, -8), dec(1, -4), dec(-99999, -10), dec(999, 0), dec(-1000, 0), dec(123456789, -2),
	dec(999999, 0), dec(-9999995, -1), dec(1, 9), dec(-1, -12), dec(999999999, -12), dec(999999999, 12), dec(-999999999, 12),
}

// realPattern has the parts of a text that ReadReal takes.
var realPattern = regexp.MustCompile(`^([-+ ]?)([0-9]*)(?:\.([0-9]*))?(?:[eE]([-+]?)0*([0-9]{1,2}))?(%?)$`)

// realOf returns what ReadReal is to give for a text of at most MaxText bytes.
func realOf(text string) (impl.Dec, bool) {
	m := realPattern.FindStringSubmatch(text)
	if m == nil || m[2]+m[3] == "" {
		return impl.Dec{}, false
	}
	n, _ := new(big.Int).SetString(m[2]+m[3], 10)
	power, _ := strconv.Atoi(m[4] + m[5])
	power -= len(m[3]) + 2*len(m[6])
	// This is the power of ten of a unit that is less than any that can be told.
	unit := -99 - impl.MaxText - 2
	n.Mul(n, powerOfTen(power-unit))
	if m[1] == "-" {
		n.Neg(n)
	}
	return normalFrom(n, unit)
}
