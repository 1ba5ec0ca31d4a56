package tests

import (
	"math"
	"math/big"

	"loop.example/formatplans/impl"
)

// baseExp is the power of ten of one unit of the exact numbers below; it is less than that of any shifted decimal.
const baseExp = -2 * impl.MaxExp

// dec returns the decimal of a coefficient with its sign.
func dec(coef int, exp int) impl.Dec {
	if coef < 0 {
		return impl.Dec{Neg: true, Coef: -coef, Exp: exp}
	}
	return impl.Dec{Coef: coef, Exp: exp}
}

func powerOfTen(n int) *big.Int {
	return new(big.Int).Exp(big.NewInt(10), big.NewInt(int64(n)), nil)
}

// exactOf returns a decimal as a number of units.
func exactOf(d impl.Dec) *big.Int {
	n := new(big.Int).Mul(big.NewInt(int64(d.Coef)), powerOfTen(d.Exp-baseExp))
	if d.Neg {
		n.Neg(n)
	}
	return n
}

// normalOf returns the normal form of a number of units.
func normalOf(n *big.Int) (impl.Dec, bool) {
	return normalFrom(n, baseExp)
}

// normalFrom returns the normal form of n times a power of ten: it tries all exponents from the greatest one down.
func normalFrom(n *big.Int, power int) (impl.Dec, bool) {
	if n.Sign() == 0 {
		return impl.Dec{}, true
	}
	amount := new(big.Int).Abs(n)
	for exp := impl.MaxExp; exp >= -impl.MaxExp; exp-- {
		coef, rest := new(big.Int).QuoRem(amount, powerOfTen(exp-power), new(big.Int))
		if rest.Sign() == 0 && coef.Cmp(big.NewInt(impl.MaxCoef)) <= 0 {
			return impl.Dec{Neg: n.Sign() < 0, Coef: int(coef.Int64()), Exp: exp}, true
		}
	}
	return impl.Dec{}, false
}

// roundedTo returns the multiple of ten to the power of exp that is nearest to a number of units, the even one of two.
func roundedTo(n *big.Int, exp int) *big.Int {
	unit := powerOfTen(exp - baseExp)
	below, rest := new(big.Int).DivMod(n, unit, new(big.Int))
	half := new(big.Int).Lsh(rest, 1).Cmp(unit)
	if half > 0 || half == 0 && below.Bit(0) == 1 {
		below.Add(below, big.NewInt(1))
	}
	return below.Mul(below, unit)
}

// sampleCoefs has halves, zeros at the end, nines to carry over, and the limit with its neighbours.
var sampleCoefs = []int{
	0, 1, 2, 5, 6, 9, 10, 15, 25, 45, 55, 99, 100, 120, 125, 135, 995, 999, 1250, 1500, 5001, 9995,
	100000000, 123456789, 250000000, 350000000, 499999999, 500000000, 500000001,
	949999999, 950000000, 999999990, 999999994, 999999995, 999999998, 999999999,
}

// decsWith returns the valid decimals with these coefficients and exponents, above and below 0.
func decsWith(coefs []int, exps []int) []impl.Dec {
	var all []impl.Dec
	for _, coef := range coefs {
		for _, exp := range exps {
			all = append(all, dec(coef, exp))
			if coef != 0 {
				all = append(all, dec(-coef, exp))
			}
		}
	}
	return all
}

// sampleDecs returns valid decimals with all exponents.
func sampleDecs() []impl.Dec {
	var exps []int
	for exp := -impl.MaxExp; exp <= impl.MaxExp; exp++ {
		exps = append(exps, exp)
	}
	return decsWith(sampleCoefs, exps)
}

// fewDecs returns valid decimals that are few enough to look at each two of them.
func fewDecs() []impl.Dec {
	coefs := []int{0, 1, 2, 5, 10, 99, 120, 1000, 100000000, 123456789, 500000000, 999999990, 999999998, 999999999}
	return decsWith(coefs, []int{-12, -11, -9, -3, -1, 0, 1, 2, 8, 9, 10, 12})
}

// invalidDecs returns decimals that are not valid.
func invalidDecs() []impl.Dec {
	return []impl.Dec{
		{Coef: impl.MaxCoef + 1},
		{Neg: true, Coef: impl.MaxCoef + 1},
		{Coef: -1},
		{Neg: true, Coef: -1},
		{Coef: 1, Exp: impl.MaxExp + 1},
		{Coef: 1, Exp: -impl.MaxExp - 1},
		{Exp: impl.MaxExp + 1},
		{Exp: -impl.MaxExp - 1},
		{Neg: true},
		{Neg: true, Exp: 3},
		{Coef: math.MaxInt},
		{Coef: math.MinInt},
		{Coef: 1, Exp: math.MaxInt},
		{Coef: 1, Exp: math.MinInt},
	}
}

// outOfRange returns numbers that are too small or too great for a range, by one and by much.
func outOfRange(low int, high int) []int {
	return []int{low - 1, high + 1, math.MinInt, math.MaxInt}
}
