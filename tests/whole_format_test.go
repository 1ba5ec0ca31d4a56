package tests

import (
	"strings"
	"testing"

	"loop.example/formatplans/impl"
)

// unsuitedForWholes returns specifications that do not suit whole numbers.
func unsuitedForWholes(t *testing.T) []impl.Spec {
	bad := append(invalidSpecs(), impl.Spec{})
	for _, text := range []string{
		"f", "e", "E", "g", "G", "%", "s", ".0", ".2", ".2d", "08,.2f", ",b", ",o", ",x", ",X", "#010,x",
		"=c", "=5c", "+c", "-c", " c", "#c", "05c", ",c", "_c", ".1c",
	} {
		bad = append(bad, mustParse(t, text))
	}
	return bad
}

func TestFormatWholeExamples(t *testing.T) {
	for _, c := range []struct {
		spec string
		n    int
		want string
	}{
		{"", 0, "0"},
		{"", 1234, "1234"},
		{"d", -7, "-7"},
		{"-", 7, "7"},
		{"+", 0, "+0"},
		{"+d", 5, "+5"},
		{" ", 0, " 0"},
		{" d", -5, "-5"},
		{",", 1234567, "1,234,567"},
		{",", 999, "999"},
		{",", -1000, "-1,000"},
		{"_", 1000, "1_000"},
		{",d", impl.MaxWhole, "999,999,999,999"},
		{"", -impl.MaxWhole, "-999999999999"},
		{"b", 5, "101"},
		{"o", 8, "10"},
		{"x", 255, "ff"},
		{"X", 255, "FF"},
		{"x", -255, "-ff"},
		{"_b", 255, "1111_1111"},
		{"_o", 4096, "1_0000"},
		{"_x", 1048576, "10_0000"},
		{"_X", 48879, "BEEF"},
		{"#", 5, "5"},
		{"#d", -5, "-5"},
		{"#b", 5, "0b101"},
		{"#o", 8, "0o10"},
		{"#x", -255, "-0xff"},
		{"#X", 255, "0XFF"},
		{"#x", 0, "0x0"},
		{"+#_x", 65536, "+0x1_0000"},
		{"#_b", -impl.MaxWhole, "-0b1110_1000_1101_0100_1010_0101_0000_1111_1111_1111"},
		{"6", -12, "   -12"},
		{"<6", -12, "-12   "},
		{">6", 12, "    12"},
		{"^6", 12, "  12  "},
		{"^7", 12, "  12   "},
		{"*^8d", 123, "**123***"},
		{"*^9d", 123, "***123***"},
		{"*^1d", 123, "123"},
		{"*=8d", -5, "-******5"},
		{"=6", 5, "     5"},
		{"=6", -5, "-    5"},
		{"*=+#9x", 10, "+0x*****a"},
		{"*=9,", 1234, "****1,234"},
		{"-=6", -5, "-----5"},
		{"0<6", 12, "120000"},
		{"0>6", -12, "000-12"},
		{"0^6", -12, "0-1200"},
		{"<06", 12, "120000"},
		{"*=06", -12, "-***12"},
		{"*<06", -12, "-12***"},
		{"06", -12, "-00012"},
		{"0=6", -12, "-00012"},
		{"0=+6", 12, "+00012"},
		{"03", -123, "-123"},
		{"01", -5, "-5"},
		{"02", -5, "-5"},
		{"03", -5, "-05"},
		{"+01", 0, "+0"},
		{"#03x", 5, "0x5"},
		{"#04x", -5, "-0x5"},
		{"#05x", -5, "-0x05"},
		{"#010b", 5, "0b00000101"},
		{" #010X", 171, " 0X00000AB"},
		{"07,d", 1234, "001,234"},
		{"08,d", 1234, "0,001,234"},
		{"09,d", 1234, "0,001,234"},
		{"04,", 123, "0,123"},
		{"03,", 123, "123"},
		{"05,", -12, "-0,012"},
		{"04,", -12, "-012"},
		{"0=8_", 1234, "0_001_234"},
		{"0<8,", 1234, "1,234000"},
		{"0>8,", 1234, "0001,234"},
		{"05_b", 1, "0_0001"},
		{"06_b", 1, "0_0001"},
		{"#08_x", 1, "0x0_0001"},
		{"#07_x", 1, "0x0_0001"},
		{"#06_x", 1, "0x0001"},
		{"030,", 0, "00,000,000,000,000,000,000,000"},
		{"030_o", -1, "-0000_0000_0000_0000_0000_0001"},
		{"c", 65, "A"},
		{"c", 32, " "},
		{"c", 126, "~"},
		{"3c", 65, "  A"},
		{">3c", 65, "  A"},
		{"<3c", 65, "A  "},
		{"*^4c", 65, "*A**"},
		{"0>3c", 48, "000"},
	} {
		if got := impl.FormatWhole(mustParse(t, c.spec), c.n); got != c.want {
			t.Errorf("FormatWhole(%q, %d) = %q, want %q", c.spec, c.n, got, c.want)
		}
	}
}

func TestFormatWholeByTheParts(t *testing.T) {
	all := sampleWholes()
	eachWholeSpec(func(s impl.Spec) {
		plain := impl.PlainSpec(s, impl.VaInt)
		for _, n := range all {
			got := impl.FormatWhole(s, n)
			if want := wholeText(s, n); got != want {
				t.Fatalf("FormatWhole(%q, %d) = %q, want %q", impl.SpecText(s), n, got, want)
			}
			if other := impl.FormatWhole(plain, n); other != got {
				t.Fatalf("FormatWhole(%q, %d) = %q, but by PlainSpec %q", impl.SpecText(s), n, got, other)
			}
		}
	})
}

func TestFormatWholeOfAllWidthsAndFills(t *testing.T) {
	check := func(s impl.Spec) {
		for _, n := range []int{0, 5, -123, 1234, 100000, -impl.MaxWhole} {
			if got, want := impl.FormatWhole(s, n), wholeText(s, n); got != want {
				t.Fatalf("FormatWhole(%q, %d) = %q, want %q", impl.SpecText(s), n, got, want)
			}
		}
	}
	for _, text := range []string{"0", "0,", "+0,d", "0_b", "#0_x", " #0_o", "^", "*=", "*=#_X"} {
		s := mustParse(t, text)
		for s.Width = 0; s.Width <= impl.MaxWidth; s.Width++ {
			check(s)
		}
	}
	fillsAndAligns(printableFills(), func(s impl.Spec) {
		s.Width, s.Sign, s.Group = 12, impl.SiPlus, impl.GrComma
		check(s)
	})
}

func TestFormatWholeOfBytes(t *testing.T) {
	for n := -300; n <= 600; n++ {
		want := ""
		if 32 <= n && n <= 126 {
			want = string([]byte{byte(n)})
		}
		if got := impl.FormatWhole(mustParse(t, "c"), n); got != want {
			t.Errorf("FormatWhole(c, %d) = %q", n, got)
		}
		if want != "" {
			want = "**" + want
		}
		if got := impl.FormatWhole(mustParse(t, "*>3c"), n); got != want {
			t.Errorf("FormatWhole(*>3c, %d) = %q", n, got)
		}
	}
	// These have the low bits of a byte in the limits.
	for _, n := range []int{65 + 1<<16, 65 + 1<<32, 65 - 1<<32, impl.MaxWhole, -65} {
		if got := impl.FormatWhole(mustParse(t, "5c"), n); got != "" {
			t.Errorf("FormatWhole(5c, %d) = %q", n, got)
		}
	}
}

func TestFormatWholeRejects(t *testing.T) {
	for _, s := range unsuitedForWholes(t) {
		for _, n := range []int{0, 65, -1234, impl.MaxWhole} {
			if got := impl.FormatWhole(s, n); got != "" {
				t.Errorf("FormatWhole(%+v, %d) = %q", s, n, got)
			}
		}
	}
	for _, text := range []string{"", "30", "+,d", "08", "#x", "c"} {
		for _, n := range outOfRange(-impl.MaxWhole, impl.MaxWhole) {
			if got := impl.FormatWhole(mustParse(t, text), n); got != "" {
				t.Errorf("FormatWhole(%q, %d) = %q", text, n, got)
			}
		}
	}
}

func TestReadWholeExamples(t *testing.T) {
	for _, c := range []struct {
		spec, text string
		n          int
		ok         bool
	}{
		{"", "0", 0, true},
		{"", "-0", 0, true},
		{"", "+0", 0, true},
		{"d", "5", 5, true},
		{"d", "+5", 5, true},
		{"d", " 5", 5, true},
		{"d", "-5", -5, true},
		{"+d", "5", 5, true},
		{" d", "-5", -5, true},
		{"-d", "+5", 5, true},
		{"d", "00000005", 5, true},
		{"", "999999999999", impl.MaxWhole, true},
		{"", "-999999999999", -impl.MaxWhole, true},
		{"", "0999999999999", impl.MaxWhole, true},
		{"", "1000000000000", 0, false},
		{"", "-1000000000000", 0, false},
		{"", strings.Repeat("0", impl.MaxText-1) + "5", 5, true},
		{"", "-" + strings.Repeat("0", impl.MaxText-2) + "5", -5, true},
		{"", strings.Repeat("0", impl.MaxText) + "5", 0, false},
		{"", "-" + strings.Repeat("0", impl.MaxText-1) + "5", 0, false},
		{"x", "ff", 255, true},
		{"x", "FF", 255, true},
		{"X", "fF", 255, true},
		{"x", "-0xFF", -255, true},
		{"x", "0x00ff", 255, true},
		{"x", "00ff", 255, true},
		{"x", "0XFF", 0, false},
		{"X", "0XFF", 255, true},
		{"X", "0xFF", 0, false},
		{"#x", "ff", 255, true},
		{"#x", "+0xff", 255, true},
		{"b", "0b101", 5, true},
		{"b", "0B101", 0, false},
		{"b", "0b12", 0, false},
		{"b", "0b", 0, false},
		{"b", "0b0b1", 0, false},
		{"x", "0b1", 177, true},
		{"x", "0x0b1", 177, true},
		{"o", "0o17", 15, true},
		{"o", "017", 15, true},
		{"o", "18", 0, false},
		{"", "0x1", 0, false},
		{"", "0d1", 0, false},
		{"#", "01", 1, true},
		{"x", "0x-1", 0, false},
		{"x", "e8d4a50fff", impl.MaxWhole, true},
		{"x", "e8d4a51000", 0, false},
		{"x", "-e8d4a51000", 0, false},
		{",d", "1,234", 1234, true},
		{",d", "-1,234,567", -1234567, true},
		{",", "0,001,234", 1234, true},
		{",", "000", 0, true},
		{",", "1234", 0, false},
		{",", "12,34", 0, false},
		{",", ",123", 0, false},
		{",", "123,", 0, false},
		{",", "+,123", 0, false},
		{",", "1_234", 0, false},
		{"_", "1_234", 1234, true},
		{"d", "1,234", 0, false},
		{"d", "1_234", 0, false},
		{"_x", "0xf_ffff", 0xfffff, true},
		{"_x", "0x_ffff", 0, false},
		{"_x", "0_xfff", 0, false},
		{"_b", "1_0000", 16, true},
		{"_b", "10_000", 0, false},
		{"08,d", "1,234", 1234, true},
		{"*<9", "12", 12, true},
		{"*<9", "12*******", 0, false},
		{"6", "    12", 0, false},
		{"6", " 12", 12, true},
		{"", "", 0, false},
		{"", "-", 0, false},
		{"", "+", 0, false},
		{"", " ", 0, false},
		{",", "", 0, false},
		{",", "-", 0, false},
		{"", "--5", 0, false},
		{"", "+-5", 0, false},
		{"", "  5", 0, false},
		{"", "- 5", 0, false},
		{"", "5-", 0, false},
		{"", "5 ", 0, false},
		{"", "1.5", 0, false},
		{"", "1e3", 0, false},
		{"", "five", 0, false},
		{"", "５", 0, false},
		{"", "5\x00", 0, false},
		{"", "\xff", 0, false},
		{"c", "A", 0, false},
		{"c", "5", 0, false},
		{"*<5c", "65", 0, false},
	} {
		if n, ok := impl.ReadWhole(mustParse(t, c.spec), c.text); n != c.n || ok != c.ok {
			t.Errorf("ReadWhole(%q, %q) = %d, %v, want %d, %v", c.spec, c.text, n, ok, c.n, c.ok)
		}
	}
}

func TestReadWholeLongestTexts(t *testing.T) {
	tens := "000" + strings.Repeat(",000", 18) + ",007"
	letters := "0000" + strings.Repeat("_0000", 14) + "_00fF"
	for _, c := range []struct {
		spec, text string
		bytes, n   int
	}{
		{",", "-" + tens, impl.MaxText, -7},
		{",", "0," + tens, impl.MaxText + 1, 0},
		{"_x", "-" + letters, impl.MaxText, -255},
		{"_x", "0x" + letters, impl.MaxText + 1, 0},
		{"_x", "0x" + letters[5:], impl.MaxText - 4, 255},
	} {
		n, ok := impl.ReadWhole(mustParse(t, c.spec), c.text)
		if len(c.text) != c.bytes || n != c.n || ok != (c.n != 0) {
			t.Errorf("ReadWhole(%q, %q) of %d bytes = %d, %v", c.spec, c.text, len(c.text), n, ok)
		}
	}
}

func TestReadWholeRejects(t *testing.T) {
	for _, s := range append(unsuitedForWholes(t), mustParse(t, "c"), mustParse(t, "*>5c")) {
		for _, text := range []string{"", "0", "5", "-12", "A", "1,234", "0x1"} {
			if n, ok := impl.ReadWhole(s, text); n != 0 || ok {
				t.Errorf("ReadWhole(%+v, %q) = %d, %v", s, text, n, ok)
			}
		}
	}
}

func TestPromise27NumbersAreReadBack(t *testing.T) {
	all := sampleWholes()
	eachWholeSpec(func(s impl.Spec) {
		bare := s
		bare.Width = 0
		for _, n := range all {
			text, wide := impl.FormatWhole(bare, n), impl.FormatWhole(s, n)
			if len(wide) < len(text) || text != "" && len(wide) < s.Width {
				t.Fatalf("FormatWhole(%q, %d) = %q, but without a Width %q", impl.SpecText(s), n, wide, text)
			}
			if s.Type == "c" {
				continue
			}
			for _, reader := range []impl.Spec{bare, s} {
				if got, ok := impl.ReadWhole(reader, text); got != n || !ok {
					t.Fatalf("ReadWhole(%q, %q) = %d, %v, want %d", impl.SpecText(reader), text, got, ok, n)
				}
			}
		}
	})
}

func TestPromise29SignsAreThoseOfNumbers(t *testing.T) {
	eachWholeSpec(func(s impl.Spec) {
		if s.Sign != impl.SiPlus {
			return
		}
		for _, n := range sampleAmounts[1:] {
			above, below := impl.FormatWhole(s, n), impl.FormatWhole(s, -n)
			at := 0
			for at < len(above) && at < len(below) && above[at] == below[at] {
				at++
			}
			if at >= len(above) || above[at] != '+' || below != above[:at]+"-"+above[at+1:] {
				t.Fatalf("FormatWhole(%q) of %d and below 0 = %q and %q", impl.SpecText(s), n, above, below)
			}
		}
	})
}

func TestPromise30WhatIsReadCanBeWritten(t *testing.T) {
	for spec := range readTypes {
		s := mustParse(t, spec)
		check := func(text string) {
			want, wantOK := wholeOf(spec, text)
			n, ok := impl.ReadWhole(s, text)
			if n != want || ok != wantOK {
				t.Fatalf("ReadWhole(%q, %q) = %d, %v, want %d, %v", spec, text, n, ok, want, wantOK)
			}
			if !ok {
				return
			}
			written := impl.FormatWhole(s, n)
			if back, ok := impl.ReadWhole(s, written); back != n || !ok {
				t.Fatalf("ReadWhole(%q, %q) = %d, %v, want %d of %q", spec, written, back, ok, n, text)
			}
		}
		eachText("", "019afF-+ ,_xXbo.", 3, check)
		for _, start := range []string{"0x", "-0X1", "+0b", " 0o1", "1,00", "-10_00", "0x1_000", "0b1_1", "99999999999", "e8d4a50fff"} {
			eachText(start, "0179fF,_x ", 3, check)
		}
	}
}

func TestReadWholeLooksAtTypeAndGroupAlone(t *testing.T) {
	texts := []string{"5", "+5", " 0x5", "-0X5f", "0b1", "0o7", "1,234", "-1_234", "1_0000", "12,34", "05", "", "-", "*5", "5*", "  5"}
	eachWholeSpec(func(s impl.Spec) {
		if s.Type == "c" {
			return
		}
		bare := impl.SpecText(impl.Spec{Group: s.Group, Prec: -1, Type: s.Type})
		for _, text := range texts {
			want, wantOK := wholeOf(bare, text)
			if n, ok := impl.ReadWhole(s, text); n != want || ok != wantOK {
				t.Fatalf("ReadWhole(%q, %q) = %d, %v, want %d, %v", impl.SpecText(s), text, n, ok, want, wantOK)
			}
		}
	})
}
