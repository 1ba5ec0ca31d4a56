package tests

import (
	"strings"
	"testing"

	"loop.example/formatplans/impl"
)

// amountCase is a decimal, a number of places or digits, and the text of the amount.
type amountCase struct {
	d    impl.Dec
	n    int
	want string
}

// checkAmounts checks examples of FixedText, ExpText or GeneralText, each with and without a sign.
func checkAmounts(t *testing.T, name string, textOf func(impl.Dec, int) string, cases []amountCase) {
	t.Helper()
	for _, c := range cases {
		for _, d := range []impl.Dec{c.d, impl.NegateDec(c.d)} {
			if got := textOf(d, c.n); got != c.want {
				t.Errorf("%s(%v, %d) = %q, want %q", name, d, c.n, got, c.want)
			}
		}
	}
}

// checkRejects checks that there is no text of invalid decimals, nor with numbers that are not in low..high, and one with those in it.
func checkRejects(t *testing.T, name string, textOf func(impl.Dec, int) string, low int, high int) {
	t.Helper()
	for _, d := range realDecs {
		for _, n := range append(outOfRange(low, high), -impl.MaxExp, impl.MaxExp) {
			if got := textOf(d, n); got != "" {
				t.Errorf("%s(%v, %d) = %q", name, d, n, got)
			}
		}
		for n := low; n <= high; n++ {
			if textOf(d, n) == "" {
				t.Errorf("%s(%v, %d) is empty", name, d, n)
			}
		}
	}
	for _, d := range invalidDecs() {
		for n := low; n <= high; n++ {
			if got := textOf(d, n); got != "" {
				t.Errorf("%s(%v, %d) = %q", name, d, n, got)
			}
		}
	}
}

func TestFixedTextExamples(t *testing.T) {
	checkAmounts(t, "FixedText", impl.FixedText, []amountCase{
		{dec(0, 0), 0, "0"},
		{dec(0, 12), 2, "0.00"},
		{dec(0, -12), 0, "0"},
		{dec(0, 0), 9, "0.000000000"},
		{dec(5, 0), 0, "5"},
		{dec(5, -1), 0, "0"},
		{dec(15, -1), 0, "2"},
		{dec(25, -1), 0, "2"},
		{dec(251, -2), 0, "3"},
		{dec(85, -1), 0, "8"},
		{dec(95, -1), 0, "10"},
		{dec(94, -1), 0, "9"},
		{dec(125, -2), 1, "1.2"},
		{dec(135, -2), 1, "1.4"},
		{dec(2675, -3), 2, "2.68"},
		{dec(9995, -2), 1, "100.0"},
		{dec(9985, -2), 1, "99.8"},
		{dec(99995, -8), 7, "0.0010000"},
		{dec(99985, -8), 7, "0.0009998"},
		{dec(5, -3), 2, "0.00"},
		{dec(15, -3), 2, "0.02"},
		{dec(51, -4), 2, "0.01"},
		{dec(5, 2), 2, "500.00"},
		{dec(1200, -3), 1, "1.2"},
		{dec(5, -10), 9, "0.000000000"},
		{dec(15, -10), 9, "0.000000002"},
		{dec(1, -12), 9, "0.000000000"},
		{dec(999999999, -9), 8, "1.00000000"},
		{dec(999999999, -9), 9, "0.999999999"},
		{dec(999999999, -12), 8, "0.00100000"},
		{dec(999999999, -12), 9, "0.001000000"},
		{dec(999999999, 0), 9, "999999999.000000000"},
		{dec(999999999, 12), 0, "999999999000000000000"},
		{dec(999999999, 12), 9, "999999999000000000000.000000000"},
	})
	checkRejects(t, "FixedText", impl.FixedText, 0, impl.MaxPrec)
}

func TestExpTextExamples(t *testing.T) {
	checkAmounts(t, "ExpText", impl.ExpText, []amountCase{
		{dec(0, 0), 0, "0e+00"},
		{dec(0, 12), 3, "0.000e+00"},
		{dec(0, -12), 8, "0.00000000e+00"},
		{dec(1, 0), 0, "1e+00"},
		{dec(100, -2), 2, "1.00e+00"},
		{dec(12345, 0), 2, "1.23e+04"},
		{dec(12345, 0), 3, "1.234e+04"},
		{dec(12355, 0), 3, "1.236e+04"},
		{dec(123, 0), 8, "1.23000000e+02"},
		{dec(85, -1), 0, "8e+00"},
		{dec(95, -1), 0, "1e+01"},
		{dec(94, -1), 0, "9e+00"},
		{dec(9995, -2), 2, "1.00e+02"},
		{dec(9995, -2), 3, "9.995e+01"},
		{dec(9985, -2), 2, "9.98e+01"},
		{dec(9995, -1), 1, "1.0e+03"},
		{dec(99995, -8), 3, "1.000e-03"},
		{dec(99995, -8), 4, "9.9995e-04"},
		{dec(5, -7), 0, "5e-07"},
		{dec(1, -9), 0, "1e-09"},
		{dec(1, -10), 0, "1e-10"},
		{dec(95, -11), 0, "1e-09"},
		{dec(1, 9), 0, "1e+09"},
		{dec(95, 8), 0, "1e+10"},
		{dec(1, -12), 8, "1.00000000e-12"},
		{dec(999999999, -12), 8, "9.99999999e-04"},
		{dec(999999999, -12), 7, "1.0000000e-03"},
		{dec(999999999, 12), 8, "9.99999999e+20"},
		{dec(999999999, 12), 7, "1.0000000e+21"},
		{dec(999999999, 12), 0, "1e+21"},
		{dec(100000000, 12), 8, "1.00000000e+20"},
	})
	checkRejects(t, "ExpText", impl.ExpText, 0, impl.MaxPrec-1)
}

func TestGeneralTextExamples(t *testing.T) {
	checkAmounts(t, "GeneralText", impl.GeneralText, []amountCase{
		{dec(0, 0), 1, "0"},
		{dec(0, 12), 9, "0"},
		{dec(0, -12), 4, "0"},
		{dec(150, -2), 3, "1.5"},
		{dec(15, -1), 1, "2"},
		{dec(25, -1), 1, "2"},
		{dec(85, -1), 1, "8"},
		{dec(95, -1), 1, "1e+01"},
		{dec(95, -1), 2, "9.5"},
		{dec(9995, -2), 3, "100"},
		{dec(9995, -2), 2, "1e+02"},
		{dec(9995, -2), 4, "99.95"},
		{dec(1, 0), 1, "1"},
		{dec(10, 0), 1, "1e+01"},
		{dec(99, -1), 2, "9.9"},
		{dec(99, 0), 2, "99"},
		{dec(100, 0), 2, "1e+02"},
		{dec(9999, 0), 3, "1e+04"},
		{dec(9999, 0), 4, "9999"},
		{dec(12000, 0), 4, "1.2e+04"},
		{dec(12000, 0), 5, "12000"},
		{dec(100000, 0), 6, "100000"},
		{dec(1000000, 0), 6, "1e+06"},
		{dec(999999, 0), 6, "999999"},
		{dec(9999995, -1), 6, "1e+06"},
		{dec(1, 8), 9, "100000000"},
		{dec(1, 9), 9, "1e+09"},
		{dec(999999999, 0), 9, "999999999"},
		{dec(999999999, 0), 8, "1e+09"},
		{dec(999999999, 1), 9, "9.99999999e+09"},
		{dec(1, -3), 1, "0.001"},
		{dec(1, -4), 3, "0.0001"},
		{dec(1, -5), 3, "1e-05"},
		{dec(99994, -9), 4, "9.999e-05"},
		{dec(99995, -9), 4, "0.0001"},
		{dec(99995, -9), 5, "9.9995e-05"},
		{dec(99995, -8), 4, "0.001"},
		{dec(123456789, -12), 9, "0.000123456789"},
		{dec(123456789, -12), 8, "0.00012345679"},
		{dec(12345678, -12), 9, "1.2345678e-05"},
		{dec(100000000, -12), 9, "0.0001"},
		{dec(1, -12), 9, "1e-12"},
		{dec(999999999, -12), 9, "0.000999999999"},
		{dec(999999999, -12), 1, "0.001"},
		{dec(999999999, 12), 9, "9.99999999e+20"},
		{dec(999999999, 12), 8, "1e+21"},
		{dec(5, 12), 9, "5e+12"},
	})
	checkRejects(t, "GeneralText", impl.GeneralText, 1, impl.MaxPrec)
}

func TestPlainTextExamples(t *testing.T) {
	checkAmounts(t, "PlainText", func(d impl.Dec, _ int) string { return impl.PlainText(d) }, []amountCase{
		{dec(0, 0), 0, "0"},
		{dec(0, 12), 0, "0"},
		{dec(0, -12), 0, "0"},
		{dec(7, 0), 0, "7"},
		{dec(5, 3), 0, "5000"},
		{dec(5, -3), 0, "0.005"},
		{dec(12500, -4), 0, "1.25"},
		{dec(1000, -3), 0, "1"},
		{dec(1230, 0), 0, "1230"},
		{dec(1, -12), 0, "0.000000000001"},
		{dec(10, -12), 0, "0.00000000001"},
		{dec(999999999, -12), 0, "0.000999999999"},
		{dec(999999999, -9), 0, "0.999999999"},
		{dec(999999999, -8), 0, "9.99999999"},
		{dec(999999999, 12), 0, "999999999000000000000"},
	})
	for _, d := range invalidDecs() {
		if got := impl.PlainText(d); got != "" {
			t.Errorf("PlainText(%v) = %q", d, got)
		}
	}
}

// readAmount returns the decimal of a text that must have one.
func readAmount(t *testing.T, text string) impl.Dec {
	t.Helper()
	d, ok := impl.ReadReal(text)
	if !ok {
		t.Fatalf("ReadReal(%q) fails", text)
	}
	return d
}

func TestPromise31FixedTextsAreRounded(t *testing.T) {
	for _, d := range sampleDecs() {
		for places := 0; places <= impl.MaxPrec; places++ {
			got := impl.FixedText(d, places)
			if want := fixedBy(unitsOf(d), places).text(false); got != want {
				t.Fatalf("FixedText(%v, %d) = %q, want %q", d, places, got, want)
			}
			if _, behind, point := strings.Cut(got, "."); len(behind) != places || point != (places > 0) {
				t.Fatalf("FixedText(%v, %d) = %q has other places", d, places, got)
			}
			if back := readAmount(t, got); back != impl.RoundDec(absOf(d), places) {
				t.Fatalf("ReadReal(FixedText(%v, %d)) = %v", d, places, back)
			}
		}
	}
}

func TestPromise32PowersHaveOneDigitAhead(t *testing.T) {
	for _, d := range sampleDecs() {
		for places := 0; places < impl.MaxPrec; places++ {
			got := impl.ExpText(d, places)
			want, _ := expBy(unitsOf(d), places)
			if got != want.text(false) {
				t.Fatalf("ExpText(%v, %d) = %q, want %q", d, places, got, want.text(false))
			}
			if digits, _, _ := strings.Cut(got, "e"); len(digits) > 1 && digits[1] != '.' || len(digits) == 2 {
				t.Fatalf("ExpText(%v, %d) = %q has its point elsewhere", d, places, got)
			}
			// What is rounded up beyond the limits cannot be read.
			rounded, ok := normalOf(roundedTo(unitsOf(d), impl.LeadOf(d)-places))
			if back, readOK := impl.ReadReal(got); back != rounded || readOK != ok || back != impl.RoundDigits(absOf(d), places+1) {
				t.Fatalf("ReadReal(ExpText(%v, %d)) = %v, %v, want %v, %v", d, places, back, readOK, rounded, ok)
			}
		}
	}
}

func TestPromise33GeneralTextsAreRoundedAndShort(t *testing.T) {
	for _, d := range sampleDecs() {
		for digits := 1; digits <= impl.MaxPrec; digits++ {
			got := impl.GeneralText(d, digits)
			if want := generalBy(unitsOf(d), digits).trimmed().text(false); got != want {
				t.Fatalf("GeneralText(%v, %d) = %q, want %q", d, digits, got, want)
			}
			number, _, _ := strings.Cut(got, "e")
			if strings.Contains(number, ".") && strings.ContainsAny(number[len(number)-1:], ".0") {
				t.Fatalf("GeneralText(%v, %d) = %q is not short", d, digits, got)
			}
			rounded, ok := normalOf(roundedTo(unitsOf(d), impl.LeadOf(d)-digits+1))
			if back, readOK := impl.ReadReal(got); back != rounded || readOK != ok || back != impl.RoundDigits(absOf(d), digits) {
				t.Fatalf("ReadReal(GeneralText(%v, %d)) = %v, %v, want %v, %v", d, digits, back, readOK, rounded, ok)
			}
		}
	}
}

func TestPromise34PlainTextsTellAll(t *testing.T) {
	for _, d := range sampleDecs() {
		got := impl.PlainText(d)
		if want := fixedBy(unitsOf(d), impl.MaxExp).trimmed().text(false); got != want {
			t.Fatalf("PlainText(%v) = %q, want %q", d, got, want)
		}
		if back := readAmount(t, got); back != impl.NormalDec(absOf(d)) {
			t.Fatalf("ReadReal(PlainText(%v)) = %v", d, back)
		}
		if places := impl.PlacesOf(d); places <= impl.MaxPrec && got != impl.FixedText(d, places) {
			t.Fatalf("PlainText(%v) = %q, but FixedText is %q", d, got, impl.FixedText(d, places))
		}
	}
}
