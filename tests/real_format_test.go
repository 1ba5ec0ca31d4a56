package tests

import (
	"strings"
	"testing"

	"loop.example/formatplans/impl"
)

// unsuitedForReals returns specifications that do not suit decimals.
func unsuitedForReals(t *testing.T) []impl.Spec {
	bad := append(invalidSpecs(), impl.Spec{})
	for _, text := range []string{
		"d", "b", "o", "x", "X", "c", "s", ",d", "08d", "#x", ".2s", "*<9s", ".0", ".2", ".9", "#", "#09", "#.2", ",.2", "+.0",
	} {
		bad = append(bad, mustParse(t, text))
	}
	return bad
}

// realCase is a specification, a decimal, and the text of the one by the other.
type realCase struct {
	spec string
	d    impl.Dec
	want string
}

func checkReals(t *testing.T, cases []realCase) {
	t.Helper()
	for _, c := range cases {
		if got := impl.FormatReal(mustParse(t, c.spec), c.d); got != c.want {
			t.Errorf("FormatReal(%q, %v) = %q, want %q", c.spec, c.d, got, c.want)
		}
	}
}

func TestFormatRealTypesAndPrecisions(t *testing.T) {
	checkReals(t, []realCase{
		{"", dec(0, 0), "0"},
		{"", dec(12500, -4), "1.25"},
		{"", dec(-5, 3), "-5000"},
		{"", dec(-1, -12), "-0.000000000001"},
		{"f", dec(5, -1), "0.500000"},
		{".0f", dec(25, -1), "2"},
		{".0f", dec(95, -1), "10"},
		{".1f", dec(-9995, -2), "-100.0"},
		{".2f", dec(2675, -3), "2.68"},
		{".8f", dec(1, 0), "1.00000000"},
		{".9f", dec(1, 0), "1.000000000"},
		{".9f", dec(-999999999, 12), "-999999999000000000000.000000000"},
		{"%", dec(5, -1), "50.000000%"},
		{".1%", dec(5, -1), "50.0%"},
		{".0%", dec(125, -4), "1%"},
		{".0%", dec(15, -3), "2%"},
		{".0%", dec(25, -3), "2%"},
		{".0%", dec(5, -3), "0%"},
		{".9%", dec(1, -12), "0.000000000%"},
		{".9%", dec(15, -12), "0.000000002%"},
		{".0%", dec(999999999, 12), "99999999900000000000000%"},
		{"%", dec(1, 12), "100000000000000.000000%"},
		{"e", dec(0, 0), "0.000000e+00"},
		{".0e", dec(95, -1), "1e+01"},
		{".1E", dec(15, 2), "1.5E+03"},
		{".7e", dec(1, 0), "1.0000000e+00"},
		{".8e", dec(1, 0), "1.00000000e+00"},
		{".9e", dec(1, 0), "1.00000000e+00"},
		{".0e", dec(-999999999, 12), "-1e+21"},
		{"g", dec(1, 6), "1e+06"},
		{"g", dec(123456, 0), "123456"},
		{"g", dec(1234567, 0), "1.23457e+06"},
		{"G", dec(1234567, 0), "1.23457E+06"},
		{"G", dec(15, -1), "1.5"},
		{".0g", dec(15, 0), "2e+01"},
		{".1g", dec(15, 0), "2e+01"},
		{".2g", dec(15, 0), "15"},
		{".8g", dec(123456789, -12), "0.00012345679"},
		{".9g", dec(123456789, -12), "0.000123456789"},
		{".3g", dec(-99995, -9), "-0.0001"},
	})
}

func TestFormatRealAltAndSigns(t *testing.T) {
	checkReals(t, []realCase{
		{"#.0f", dec(3, 0), "3."},
		{"#.1f", dec(3, 0), "3.0"},
		{"#.0%", dec(5, -1), "50.%"},
		{"#.0e", dec(5, 0), "5.e+00"},
		{"#.0E", dec(5, 0), "5.E+00"},
		{"#.3g", dec(15, -1), "1.50"},
		{"#.3g", dec(0, 0), "0.00"},
		{"#.1g", dec(0, 0), "0."},
		{"#.0g", dec(15, 0), "2.e+01"},
		{"#.0G", dec(15, 0), "2.E+01"},
		{"#g", dec(100000, 0), "100000."},
		{"#g", dec(1, 6), "1.00000e+06"},
		{"#.4g", dec(1, -4), "0.0001000"},
		{"#.9g", dec(1, -4), "0.000100000000"},
		{"#.9g", dec(1, -5), "1.00000000e-05"},
		{"+", dec(0, 5), "+0"},
		{" ", dec(0, 0), " 0"},
		{"-", dec(0, 0), "0"},
		{"-", dec(-5, 0), "-5"},
		{"+", dec(-5, 0), "-5"},
		{" ", dec(-5, 0), "-5"},
		{"+e", dec(1, 0), "+1.000000e+00"},
		{".1f", dec(-4, -2), "0.0"},
		{".1f", dec(-5, -2), "0.0"},
		{".1f", dec(-6, -2), "-0.1"},
		{"+.1f", dec(-4, -2), "+0.0"},
		{" .1f", dec(-4, -2), " 0.0"},
		{"-.1f", dec(-4, -2), "0.0"},
		{"#.0f", dec(-5, -1), "0."},
		{"+.0%", dec(-5, -3), "+0%"},
		{".0%", dec(-51, -4), "-1%"},
		{".1%", dec(-5, -3), "-0.5%"},
		{".0e", dec(-1, -12), "-1e-12"},
		{".0e", dec(-1, 0), "-1e+00"},
		{".1g", dec(-1, -12), "-1e-12"},
	})
}

func TestFormatRealGroupsAndWidths(t *testing.T) {
	checkReals(t, []realCase{
		{",", dec(123456789, -5), "1,234.56789"},
		{"_", dec(-123456, 0), "-123_456"},
		{",.0f", dec(1234567, 0), "1,234,567"},
		{",.4f", dec(999, 0), "999.0000"},
		{",.0f", dec(9995, -1), "1,000"},
		{"_.1%", dec(12345, -1), "123_450.0%"},
		{",g", dec(123456, 0), "123,456"},
		{",e", dec(123456, 0), "1.234560e+05"},
		{",.9f", dec(999999999, 12), "999,999,999,000,000,000,000.000000000"},
		{"10", dec(125, -2), "      1.25"},
		{"<10", dec(-125, -2), "-1.25     "},
		{"^10", dec(-12, -1), "   -1.2   "},
		{"^9.1%", dec(5, -1), "  50.0%  "},
		{"^8.1%", dec(5, -1), " 50.0%  "},
		{"*<9.1f", dec(5, 0), "5.0******"},
		{"*=9.1f", dec(-5, 0), "-*****5.0"},
		{"*=09.1f", dec(-5, 0), "-*****5.0"},
		{"*=12,.1f", dec(12345, 0), "****12,345.0"},
		{"3", dec(-125, -2), "-1.25"},
		{"08.1f", dec(-25, -1), "-00002.5"},
		{"0=8.1f", dec(-25, -1), "-00002.5"},
		{"0>8.1f", dec(-25, -1), "0000-2.5"},
		{"0<8.1f", dec(-25, -1), "-2.50000"},
		{"<08.1f", dec(-25, -1), "-2.50000"},
		{"010,.1f", dec(12345, -1), "0,001,234.5"},
		{"09,.1f", dec(12345, -1), "001,234.5"},
		{"011,.1f", dec(12345, -1), "0,001,234.5"},
		{"+010_.1f", dec(12345, -1), "+001_234.5"},
		{"012.1e", dec(15, 0), "000001.5e+01"},
		{"013,.1e", dec(15, 0), "000,001.5e+01"},
		{"014,.1e", dec(15, 0), "0,000,001.5e+01"},
		{"015,.1e", dec(15, 0), "0,000,001.5e+01"},
		{"07.0%", dec(5, -1), "000050%"},
		{"08,.0%", dec(5, -1), "000,050%"},
		{"09,.0%", dec(5, -1), "0,000,050%"},
		{"#06.0f", dec(3, 0), "00003."},
		{"05.1f", dec(-4, -2), "000.0"},
		{"06", dec(0, 0), "000000"},
		{"030,", dec(0, 0), "00,000,000,000,000,000,000,000"},
		{"029,.9f", dec(1, 0), "000,000,000,000,001.000000000"},
		{"030,.9f", dec(1, 0), "0,000,000,000,000,001.000000000"},
		{"30", dec(-999999999, 12), "        -999999999000000000000"},
		{"030.9f", dec(-999999999, 12), "-999999999000000000000.000000000"},
	})
}

func TestFormatRealByTheParts(t *testing.T) {
	eachRealSpec([]int{0, 9, 30}, func(s impl.Spec) {
		plain := impl.PlainSpec(s, impl.VaDec)
		for _, d := range realDecs {
			got := impl.FormatReal(s, d)
			if want := realText(s, d); got != want {
				t.Fatalf("FormatReal(%q, %v) = %q, want %q", impl.SpecText(s), d, got, want)
			}
			if other := impl.FormatReal(plain, d); other != got {
				t.Fatalf("FormatReal(%q, %v) = %q, but by PlainSpec %q", impl.SpecText(s), d, got, other)
			}
		}
	})
}

func TestFormatRealOfAllWidthsAndFills(t *testing.T) {
	check := func(s impl.Spec) {
		for _, d := range realDecs {
			if got, want := impl.FormatReal(s, d), realText(s, d); got != want {
				t.Fatalf("FormatReal(%q, %v) = %q, want %q", impl.SpecText(s), d, got, want)
			}
		}
	}
	for _, text := range []string{"", "0", "0,", "+0,.1f", "0_.0%", "#0,.0e", " #0_.3g", "^", "*=", "*=#_.2G", "0=,.9E"} {
		s := mustParse(t, text)
		for s.Width = 0; s.Width <= impl.MaxWidth; s.Width++ {
			check(s)
		}
		s.Width = 12
		for s.Prec = 0; s.Prec <= impl.MaxPrec && s.Type != ""; s.Prec++ {
			check(s)
		}
	}
	fillsAndAligns(printableFills(), func(s impl.Spec) {
		s.Width, s.Sign, s.Group, s.Prec, s.Type = 12, impl.SiPlus, impl.GrComma, 1, "f"
		check(s)
	})
}

func TestFormatRealRejects(t *testing.T) {
	for _, s := range unsuitedForReals(t) {
		for _, d := range realDecs {
			if got := impl.FormatReal(s, d); got != "" {
				t.Errorf("FormatReal(%+v, %v) = %q", s, d, got)
			}
		}
	}
	for _, text := range []string{"", "30", "+,", "08", "f", "%", "e", "E", "g", "G", "#012,.3g"} {
		for _, d := range invalidDecs() {
			if got := impl.FormatReal(mustParse(t, text), d); got != "" {
				t.Errorf("FormatReal(%q, %v) = %q", text, d, got)
			}
		}
	}
}

func TestPromise35RealsAreAsWideAsTold(t *testing.T) {
	eachRealSpec([]int{1, 10, 30}, func(s impl.Spec) {
		bare := s
		bare.Width = 0
		for _, d := range realDecs {
			text, wide := impl.FormatReal(bare, d), impl.FormatReal(s, d)
			// A mark with no digit ahead of it gets one.
			more := 0
			if s.Group != impl.GrNone && len(wide) > len(text) && impl.FillFor(s) == "0" && impl.AlignFor(s, impl.VaDec) == impl.AlInside {
				more = 1
			}
			if len(wide) < s.Width || len(wide) > max(s.Width+more, len(text)) {
				t.Fatalf("FormatReal(%q, %v) = %q, but without a Width %q", impl.SpecText(s), d, wide, text)
			}
			zero := amountBy(s, d).isZero()
			if strings.HasPrefix(text, "-") != (d.Neg && !zero) {
				t.Fatalf("FormatReal(%q, %v) = %q has another sign", impl.SpecText(bare), d, text)
			}
		}
	})
}

func TestPromise36RealsAreTheirAmountsWithASign(t *testing.T) {
	decs := sampleDecs()
	for _, text := range []string{"", "+", " ", ".0f", "+.2f", " .9f", "f", "e", "+.0e", " .8E", ".9e", "g", ".0g", "+.1G", " .9g"} {
		s := mustParse(t, text)
		for _, d := range decs {
			prec := s.Prec
			if prec == -1 {
				prec = 6
			}
			var want string
			switch s.Type {
			case "":
				want = impl.PlainText(d)
			case "f":
				want = impl.FixedText(d, prec)
			case "e", "E":
				want = impl.ExpText(d, min(prec, impl.MaxPrec-1))
			case "g", "G":
				want = impl.GeneralText(d, max(prec, 1))
			}
			if s.Type == "E" || s.Type == "G" {
				want = strings.Replace(want, "e", "E", 1)
			}
			want = realSign(s, d, amountBy(s, d)) + want
			if got := impl.FormatReal(s, d); got != want {
				t.Fatalf("FormatReal(%q, %v) = %q, want %q", text, d, got, want)
			}
		}
	}
}

func TestPromise37AHundredthIsShownAsOne(t *testing.T) {
	decs := sampleDecs()
	for _, text := range []string{"", "#", ".0", "#.0", ".1", "+.2", " ,.3", "_.8", "*^.9"} {
		percent, fixed := mustParse(t, text+"%"), mustParse(t, text+"f")
		for _, d := range decs {
			hundred, ok := impl.ShiftDec(d, 2)
			if !ok {
				// It is no valid decimal, but the powers can be cut off.
				if got, want := impl.FormatReal(percent, d), realText(percent, d); got != want {
					t.Fatalf("FormatReal(%q, %v) = %q, want %q", text+"%", d, got, want)
				}
				continue
			}
			got := impl.FormatReal(percent, d)
			if want := impl.FormatReal(fixed, hundred) + "%"; got != want {
				t.Fatalf("FormatReal(%q, %v) = %q, want %q", text+"%", d, got, want)
			}
		}
	}
}

func TestPromise38GroupsChangeNoDigits(t *testing.T) {
	eachRealSpec([]int{0}, func(s impl.Spec) {
		if s.Group == impl.GrNone {
			return
		}
		mark, bare := []string{"", ",", "_"}[s.Group], s
		bare.Group = impl.GrNone
		for _, d := range realDecs {
			grouped, text := impl.FormatReal(s, d), impl.FormatReal(bare, d)
			if strings.ReplaceAll(grouped, mark, "") != text {
				t.Fatalf("FormatReal(%q, %v) = %q, but without a Group %q", impl.SpecText(s), d, grouped, text)
			}
			ahead := len(amountBy(s, d).ahead)
			if strings.Count(grouped, mark) != (ahead-1)/3 {
				t.Fatalf("FormatReal(%q, %v) = %q has other marks", impl.SpecText(s), d, grouped)
			}
		}
	})
}
