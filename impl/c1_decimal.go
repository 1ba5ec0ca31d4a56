package impl

import "cmp"

// MaxCoef is the greatest coefficient of a decimal.
const MaxCoef = 999999999

// MaxExp is the greatest exponent of a decimal.
const MaxExp = 12

// coefDigits is the number of digits of MaxCoef.
const coefDigits = 9

// Dec is a decimal: a coefficient times a power of 10, above or below 0.
type Dec struct {
	Neg  bool
	Coef int
	Exp  int
}

// powersOfTen returns the powers of ten up to the first one that is greater than MaxCoef.
func powersOfTen() [coefDigits + 1]int {
	var powers [coefDigits + 1]int
	power := 1
	for i := range coefDigits + 1 {
		powers[i] = power
		power *= 10
	}
	return powers
}

// fromSigned returns the decimal of a coefficient with its sign, which may be beyond the limits.
func fromSigned(coef int, exp int) Dec {
	if coef < 0 {
		return Dec{Neg: true, Coef: -coef, Exp: exp}
	}
	return Dec{Coef: coef, Exp: exp}
}

func (d Dec) valid() bool {
	if d.Coef < 0 || d.Coef > MaxCoef || d.Exp < -MaxExp || d.Exp > MaxExp {
		return false
	}
	return d.Coef > 0 || !d.Neg
}

// fitted returns the normal form of d, whose Coef and Exp may be too great, and whether there is one.
func (d Dec) fitted() (Dec, bool) {
	// What was rounded to 0 may still have its sign.
	if d.Coef == 0 {
		return Dec{}, true
	}
	for d.Exp < MaxExp && d.Coef%10 == 0 {
		d.Coef /= 10
		d.Exp++
	}
	for d.Exp > MaxExp && d.Coef <= MaxCoef {
		d.Coef *= 10
		d.Exp--
	}
	if !d.valid() {
		return Dec{}, false
	}
	return d, true
}

func (d Dec) sign() int {
	if d.Neg {
		return -1
	}
	return min(d.Coef, 1)
}

func (d Dec) digits() int {
	count := 0
	for rest := d.Coef; rest > 0; rest /= 10 {
		count++
	}
	return count
}

func (d Dec) lead() int {
	return d.digits() + d.Exp - 1
}

// stretched returns the coefficient with as many digits as MaxCoef has.
func (d Dec) stretched() int {
	return d.Coef * powersOfTen()[coefDigits-d.digits()]
}

// dropped returns d without its last digits, rounded to the nearest and to even.
func (d Dec) dropped(digits int) Dec {
	if digits <= 0 {
		return d
	}
	// Less than a tenth of one is never rounded up.
	if digits > coefDigits {
		return Dec{}
	}
	power := powersOfTen()[digits]
	quotient, rest := d.Coef/power, d.Coef%power
	if 2*rest > power || 2*rest == power && quotient%2 == 1 {
		quotient++
	}
	return Dec{Neg: d.Neg, Coef: quotient, Exp: d.Exp + digits}
}

// ValidDec reports whether a decimal is valid.
func ValidDec(d Dec) bool {
	return d.valid()
}

// NormalDec returns an equal decimal in normal form.
func NormalDec(d Dec) Dec {
	if !d.valid() {
		return Dec{}
	}
	normal, _ := d.fitted()
	return normal
}

// CompareDec returns how two decimals compare.
func CompareDec(a Dec, b Dec) int {
	if !a.valid() || !b.valid() {
		return 0
	}
	if a.sign() != b.sign() {
		return cmp.Compare(a.sign(), b.sign())
	}
	return a.sign() * compareAmounts(a, b)
}

// compareAmounts compares without signs, by the first digits, as both at one exponent may be too great for an int.
func compareAmounts(a Dec, b Dec) int {
	return cmp.Or(cmp.Compare(a.lead(), b.lead()), cmp.Compare(a.stretched(), b.stretched()))
}

// NegateDec returns a decimal with the other sign.
func NegateDec(d Dec) Dec {
	if !d.valid() {
		return Dec{}
	}
	return Dec{Neg: d.Coef > 0 && !d.Neg, Coef: d.Coef, Exp: d.Exp}
}

// AddDec returns the sum of two decimals.
func AddDec(a Dec, b Dec) (Dec, bool) {
	if !a.valid() || !b.valid() {
		return Dec{}, false
	}
	high, low := NormalDec(a), NormalDec(b)
	if high.Coef == 0 {
		return low, true
	}
	if low.Coef == 0 {
		return high, true
	}
	if high.Exp < low.Exp {
		high, low = low, high
	}
	// The last digit of low stays, and across a greater gap the sum has more digits than any coefficient.
	gap := high.Exp - low.Exp
	if gap > coefDigits {
		return Dec{}, false
	}
	sum := high.sign()*high.Coef*powersOfTen()[gap] + low.sign()*low.Coef
	return fromSigned(sum, low.Exp).fitted()
}

// ShiftDec returns a decimal times a power of 10.
func ShiftDec(d Dec, k int) (Dec, bool) {
	if !d.valid() || k < -MaxExp || k > MaxExp {
		return Dec{}, false
	}
	d.Exp += k
	return d.fitted()
}

// DigitsOf returns the number of digits of a decimal.
func DigitsOf(d Dec) int {
	if !d.valid() {
		return -1
	}
	return d.digits()
}

// LeadOf returns the power of 10 of the first digit of a decimal.
func LeadOf(d Dec) int {
	if !d.valid() || d.Coef == 0 {
		return 0
	}
	return d.lead()
}

// RoundDec returns a decimal rounded to some places.
func RoundDec(d Dec, places int) Dec {
	if !d.valid() || places < -MaxExp || places > MaxExp {
		return Dec{}
	}
	rounded, _ := d.dropped(-places - d.Exp).fitted()
	return rounded
}

// RoundDigits returns a decimal rounded to some digits.
func RoundDigits(d Dec, digits int) Dec {
	if !d.valid() || digits < 1 || digits > coefDigits {
		return Dec{}
	}
	rounded, _ := d.dropped(d.digits() - digits).fitted()
	return rounded
}

// IsWhole reports whether a decimal is a whole number.
func IsWhole(d Dec) bool {
	return PlacesOf(d) == 0
}

// PlacesOf returns how many digits behind the point a decimal needs.
func PlacesOf(d Dec) int {
	if !d.valid() {
		return -1
	}
	return max(0, -NormalDec(d).Exp)
}
