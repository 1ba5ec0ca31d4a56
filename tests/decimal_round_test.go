package tests

import (
	"math/big"
	"strconv"
	"testing"

	"loop.example/formatplans/impl"
)

func TestPromise7DigitsAreCounted(t *testing.T) {
	for _, c := range []struct {
		d    impl.Dec
		want int
	}{
		{dec(0, 0), 0},
		{dec(0, 12), 0},
		{dec(9, 12), 1},
		{dec(10, -12), 2},
		{dec(-100, 0), 3},
		{dec(99999999, 0), 8},
		{dec(100000000, 0), 9},
		{dec(999999999, 0), 9},
	} {
		if got := impl.DigitsOf(c.d); got != c.want {
			t.Errorf("DigitsOf(%v) = %d, want %d", c.d, got, c.want)
		}
	}
	for _, d := range sampleDecs() {
		if d.Coef == 0 {
			continue
		}
		digits := impl.DigitsOf(d)
		if digits != len(strconv.Itoa(d.Coef)) {
			t.Fatalf("DigitsOf(%v) = %d", d, digits)
		}
		coef := big.NewInt(int64(d.Coef))
		if coef.Cmp(powerOfTen(digits-1)) < 0 || coef.Cmp(powerOfTen(digits)) >= 0 {
			t.Fatalf("DigitsOf(%v) = %d is not between its powers", d, digits)
		}
	}
	for _, d := range invalidDecs() {
		if got := impl.DigitsOf(d); got != -1 {
			t.Errorf("DigitsOf(%v) = %d", d, got)
		}
	}
}

func TestPromise8FirstDigitHasAPower(t *testing.T) {
	for _, c := range []struct {
		d    impl.Dec
		want int
	}{
		{dec(0, 0), 0},
		{dec(0, 7), 0},
		{dec(0, -7), 0},
		{dec(1, 0), 0},
		{dec(-123, -1), 1},
		{dec(5, -3), -3},
		{dec(1, -12), -12},
		{dec(999999999, 12), 20},
	} {
		if got := impl.LeadOf(c.d); got != c.want {
			t.Errorf("LeadOf(%v) = %d, want %d", c.d, got, c.want)
		}
	}
	for _, d := range sampleDecs() {
		if d.Coef == 0 {
			continue
		}
		if impl.LeadOf(d) != impl.DigitsOf(d)+d.Exp-1 || impl.LeadOf(impl.NormalDec(d)) != impl.LeadOf(d) {
			t.Fatalf("LeadOf(%v) = %d", d, impl.LeadOf(d))
		}
		if ten, ok := impl.ShiftDec(d, 1); ok && impl.LeadOf(ten) != impl.LeadOf(d)+1 {
			t.Fatalf("LeadOf(%v) = %d, but %d for ten times as much", d, impl.LeadOf(d), impl.LeadOf(ten))
		}
	}
	for _, d := range invalidDecs() {
		if got := impl.LeadOf(d); got != 0 {
			t.Errorf("LeadOf(%v) = %d", d, got)
		}
	}
}

func TestRoundDecExamples(t *testing.T) {
	for _, c := range []struct {
		d      impl.Dec
		places int
		want   impl.Dec
	}{
		{dec(5, -1), 0, dec(0, 0)},
		{dec(-5, -1), 0, dec(0, 0)},
		{dec(15, -1), 0, dec(2, 0)},
		{dec(-15, -1), 0, dec(-2, 0)},
		{dec(25, -1), 0, dec(2, 0)},
		{dec(-25, -1), 0, dec(-2, 0)},
		{dec(250000001, -8), 0, dec(3, 0)},
		{dec(249999999, -8), 0, dec(2, 0)},
		{dec(50, -2), 0, dec(0, 0)},
		{dec(995, -1), 0, dec(1, 2)},
		{dec(985, -1), 0, dec(98, 0)},
		{dec(500000000, 0), -9, dec(0, 0)},
		{dec(500000001, 0), -9, dec(1, 9)},
		{dec(-500000001, 0), -9, dec(-1, 9)},
		{dec(999999999, 0), -10, dec(0, 0)},
		{dec(999999999, 3), -12, dec(1, 12)},
		{dec(500000000, 4), -12, dec(5, 12)},
		{dec(15, 11), -12, dec(2, 12)},
		{dec(25, 11), -12, dec(2, 12)},
		{dec(999999999, 12), -12, dec(999999999, 12)},
		{dec(999999999, 11), -12, dec(100000000, 12)},
		{dec(-999999999, -12), -12, dec(0, 0)},
		{dec(999999999, -12), 12, dec(999999999, -12)},
		{dec(1200, -2), 12, dec(12, 0)},
		{dec(0, -5), 2, dec(0, 0)},
	} {
		if got := impl.RoundDec(c.d, c.places); got != c.want {
			t.Errorf("RoundDec(%v, %d) = %v, want %v", c.d, c.places, got, c.want)
		}
	}
	for _, places := range outOfRange(-impl.MaxExp, impl.MaxExp) {
		for _, d := range []impl.Dec{dec(0, 0), dec(1, 0), dec(5, 12), dec(123456789, -12), dec(123456789, 12)} {
			if got := impl.RoundDec(d, places); got != dec(0, 0) {
				t.Errorf("RoundDec(%v, %d) = %v", d, places, got)
			}
		}
	}
	for _, d := range invalidDecs() {
		for _, places := range []int{-3, 0, 3} {
			if got := impl.RoundDec(d, places); got != dec(0, 0) {
				t.Errorf("RoundDec(%v, %d) = %v", d, places, got)
			}
		}
	}
}

func TestPromise9RoundedIsNear(t *testing.T) {
	for _, d := range sampleDecs() {
		for places := -impl.MaxExp; places <= impl.MaxExp; places++ {
			want, _ := normalOf(roundedTo(exactOf(d), -places))
			got := impl.RoundDec(d, places)
			if got != want {
				t.Fatalf("RoundDec(%v, %d) = %v, want %v", d, places, got, want)
			}
			if impl.PlacesOf(got) > max(places, 0) {
				t.Fatalf("RoundDec(%v, %d) = %v has too many places", d, places, got)
			}
			if impl.RoundDec(got, places) != got {
				t.Fatalf("RoundDec(%v, %d) = %v is rounded again", d, places, got)
			}
			if impl.RoundDec(impl.NegateDec(d), places) != impl.NegateDec(got) {
				t.Fatalf("RoundDec(%v, %d) is not turned round", d, places)
			}
			if places >= impl.PlacesOf(d) && got != impl.NormalDec(d) {
				t.Fatalf("RoundDec(%v, %d) = %v changes what needs no more places", d, places, got)
			}
		}
	}
}

func TestPromise10NoMultipleIsNearer(t *testing.T) {
	for _, d := range sampleDecs() {
		for places := -impl.MaxExp; places <= impl.MaxExp; places++ {
			got := impl.RoundDec(d, places)
			off := new(big.Int).Sub(exactOf(d), exactOf(got))
			off.Abs(off).Lsh(off, 1)
			if off.Cmp(powerOfTen(-places-baseExp)) > 0 {
				t.Fatalf("RoundDec(%v, %d) = %v is not near", d, places, got)
			}
		}
	}
}

func TestRoundDigitsExamples(t *testing.T) {
	for _, c := range []struct {
		d      impl.Dec
		digits int
		want   impl.Dec
	}{
		{dec(0, 0), 3, dec(0, 0)},
		{dec(0, 4), 3, dec(0, 0)},
		{dec(125, -2), 2, dec(12, -1)},
		{dec(-135, -2), 2, dec(-14, -1)},
		{dec(995, 0), 2, dec(1, 3)},
		{dec(994, 0), 2, dec(99, 1)},
		{dec(1250, -3), 2, dec(12, -1)},
		{dec(100, 0), 1, dec(1, 2)},
		{dec(999999999, 0), 9, dec(999999999, 0)},
		{dec(999999999, 0), 8, dec(1, 9)},
		{dec(999999999, 0), 1, dec(1, 9)},
		{dec(123456789, -12), 9, dec(123456789, -12)},
		{dec(5, -12), 1, dec(5, -12)},
		{dec(949999999, 12), 1, dec(900000000, 12)},
		{dec(950000000, 12), 1, dec(0, 0)},
		{dec(999999999, 12), 8, dec(0, 0)},
		{dec(-999999999, 12), 1, dec(0, 0)},
		{dec(999999994, 12), 8, dec(999999990, 12)},
		{dec(999999999, 11), 8, dec(100000000, 12)},
	} {
		if got := impl.RoundDigits(c.d, c.digits); got != c.want {
			t.Errorf("RoundDigits(%v, %d) = %v, want %v", c.d, c.digits, got, c.want)
		}
	}
	for _, digits := range append(outOfRange(1, 9), 10, 0) {
		for _, d := range []impl.Dec{dec(0, 0), dec(1, 0), dec(999999999, 0)} {
			if got := impl.RoundDigits(d, digits); got != dec(0, 0) {
				t.Errorf("RoundDigits(%v, %d) = %v", d, digits, got)
			}
		}
	}
	for _, d := range invalidDecs() {
		for _, digits := range []int{1, 4, 9} {
			if got := impl.RoundDigits(d, digits); got != dec(0, 0) {
				t.Errorf("RoundDigits(%v, %d) = %v", d, digits, got)
			}
		}
	}
}

func TestPromise11RoundedDigitsAreFew(t *testing.T) {
	for _, d := range sampleDecs() {
		if d.Coef == 0 {
			continue
		}
		for digits := 1; digits <= 9; digits++ {
			want, ok := normalOf(roundedTo(exactOf(d), impl.LeadOf(d)-digits+1))
			got := impl.RoundDigits(d, digits)
			if got != want {
				t.Fatalf("RoundDigits(%v, %d) = %v, want %v", d, digits, got, want)
			}
			if !ok {
				continue
			}
			if significant(got) > digits {
				t.Fatalf("RoundDigits(%v, %d) = %v has too many digits", d, digits, got)
			}
			if impl.RoundDigits(got, digits) != got {
				t.Fatalf("RoundDigits(%v, %d) = %v is rounded again", d, digits, got)
			}
			if significant(d) <= digits && got != impl.NormalDec(d) {
				t.Fatalf("RoundDigits(%v, %d) = %v changes what has no more digits", d, digits, got)
			}
		}
	}
}

// significant counts the digits of a decimal without the zeros at its end.
func significant(d impl.Dec) int {
	count := len(strconv.Itoa(d.Coef))
	for rest := d.Coef; rest > 0 && rest%10 == 0; rest /= 10 {
		count--
	}
	return count
}

func TestPromise12WholeNumbersNeedNoPlaces(t *testing.T) {
	for _, c := range []struct {
		d    impl.Dec
		want bool
	}{
		{dec(0, 0), true},
		{dec(0, -12), true},
		{dec(7, 0), true},
		{dec(-7, 12), true},
		{dec(70, -1), true},
		{dec(75, -1), false},
		{dec(-100000000, -8), true},
		{dec(100000000, -9), false},
		{dec(1, -12), false},
	} {
		if got := impl.IsWhole(c.d); got != c.want {
			t.Errorf("IsWhole(%v) = %v", c.d, got)
		}
	}
	one := powerOfTen(-baseExp)
	for _, d := range sampleDecs() {
		whole := new(big.Int).Rem(exactOf(d), one).Sign() == 0
		if impl.IsWhole(d) != whole || whole != (impl.PlacesOf(d) == 0) {
			t.Fatalf("IsWhole(%v) = %v, PlacesOf = %d", d, impl.IsWhole(d), impl.PlacesOf(d))
		}
		if whole != (impl.RoundDec(d, 0) == impl.NormalDec(d)) {
			t.Fatalf("RoundDec(%v, 0) = %v", d, impl.RoundDec(d, 0))
		}
	}
	for _, d := range invalidDecs() {
		if impl.IsWhole(d) {
			t.Errorf("IsWhole(%v) = true", d)
		}
	}
}

func TestPromise13PlacesOfTheNormalForm(t *testing.T) {
	for _, c := range []struct {
		d    impl.Dec
		want int
	}{
		{dec(0, 0), 0},
		{dec(0, -12), 0},
		{dec(5, 12), 0},
		{dec(1250, -3), 2},
		{dec(-1000, -3), 0},
		{dec(1, -12), 12},
		{dec(10, -12), 11},
		{dec(999999999, -12), 12},
	} {
		if got := impl.PlacesOf(c.d); got != c.want {
			t.Errorf("PlacesOf(%v) = %d, want %d", c.d, got, c.want)
		}
	}
	for _, d := range sampleDecs() {
		places := impl.PlacesOf(d)
		if places != impl.PlacesOf(impl.NormalDec(d)) || places < 0 {
			t.Fatalf("PlacesOf(%v) = %d", d, places)
		}
		if got := impl.RoundDec(d, places); got != impl.NormalDec(d) {
			t.Fatalf("RoundDec(%v, %d) = %v", d, places, got)
		}
		// A whole number needs none, so one less may or may not change it.
		if places > 0 && impl.RoundDec(d, places-1) == impl.NormalDec(d) {
			t.Fatalf("RoundDec(%v, %d) changes nothing", d, places-1)
		}
	}
	for _, d := range invalidDecs() {
		if got := impl.PlacesOf(d); got != -1 {
			t.Errorf("PlacesOf(%v) = %d", d, got)
		}
	}
}
