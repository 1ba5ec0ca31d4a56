package tests

import (
	"math"
	"math/big"
	"regexp"
	"strconv"
	"strings"
	"testing"

	"loop.example/formatplans/impl"
)

// badBases are no bases.
var badBases = append(outOfRange(2, 16), 0, 1, -2, -10, 36)

// badGroups are no numbers of bytes of a group.
var badGroups = append(outOfRange(1, 9), -1, -3)

func TestWholeConstants(t *testing.T) {
	if impl.MaxWhole != 999999999999 || impl.MaxText != 80 {
		t.Errorf("MaxWhole is %d, MaxText is %d", impl.MaxWhole, impl.MaxText)
	}
}

func TestDigitsInExamples(t *testing.T) {
	for _, c := range []struct {
		n, base int
		want    string
	}{
		{0, 2, "0"},
		{0, 10, "0"},
		{0, 16, "0"},
		{1, 2, "1"},
		{5, 2, "101"},
		{8, 8, "10"},
		{255, 16, "ff"},
		{11259375, 16, "abcdef"},
		{10, 11, "a"},
		{1234, 10, "1234"},
		{impl.MaxWhole, 10, "999999999999"},
		{impl.MaxWhole, 16, "e8d4a50fff"},
		{impl.MaxWhole, 8, "16432451207777"},
		{impl.MaxWhole, 2, "1110100011010100101001010000111111111111"},
	} {
		if got := impl.DigitsIn(c.n, c.base); got != c.want {
			t.Errorf("DigitsIn(%d, %d) = %q, want %q", c.n, c.base, got, c.want)
		}
	}
}

func TestDigitsInRejects(t *testing.T) {
	for _, n := range []int{-1, -impl.MaxWhole, impl.MaxWhole + 1, math.MinInt, math.MaxInt} {
		for base := 2; base <= 16; base++ {
			if got := impl.DigitsIn(n, base); got != "" {
				t.Errorf("DigitsIn(%d, %d) = %q", n, base, got)
			}
		}
	}
	for _, base := range badBases {
		for _, n := range []int{0, 1, 5, impl.MaxWhole, -1} {
			if got := impl.DigitsIn(n, base); got != "" {
				t.Errorf("DigitsIn(%d, %d) = %q", n, base, got)
			}
		}
	}
}

func TestPromise22DigitsAreReadBack(t *testing.T) {
	for base := 2; base <= 16; base++ {
		for _, n := range sampleAmounts {
			digits := impl.DigitsIn(n, base)
			if want := digitsOf(n, base); digits != want {
				t.Fatalf("DigitsIn(%d, %d) = %q, want %q", n, base, digits, want)
			}
			for _, s := range []string{digits, "0" + digits, strings.Repeat("0", 100) + digits, strings.ToUpper(digits)} {
				if got := impl.ValueIn(s, base); got != n {
					t.Fatalf("ValueIn(%q, %d) = %d, want %d", s, base, got, n)
				}
			}
		}
	}
}

func TestPromise23NumbersAreWrittenBack(t *testing.T) {
	for base := 2; base <= 16; base++ {
		eachText("", "0179aAfF", 4, func(s string) {
			amount, ok := new(big.Int).SetString(s, base)
			if !ok {
				if got := impl.ValueIn(s, base); got != -1 {
					t.Fatalf("ValueIn(%q, %d) = %d", s, base, got)
				}
				return
			}
			got := impl.ValueIn(s, base)
			if int64(got) != amount.Int64() {
				t.Fatalf("ValueIn(%q, %d) = %d, want %d", s, base, got, amount)
			}
			want := strings.ToLower(strings.TrimLeft(s, "0"))
			if want == "" {
				want = "0"
			}
			if back := impl.DigitsIn(got, base); back != want {
				t.Fatalf("DigitsIn(%d, %d) = %q, want %q of %q", got, base, back, want, s)
			}
		})
	}
}

func TestValueInKnowsEachDigit(t *testing.T) {
	for base := 2; base <= 16; base++ {
		for b := range 256 {
			s := string([]byte{byte(b)})
			want := strings.Index("0123456789abcdef"[:base], strings.ToLower(s))
			if b >= 0x80 {
				want = -1
			}
			if got := impl.ValueIn(s, base); got != want {
				t.Errorf("ValueIn(%q, %d) = %d, want %d", s, base, got, want)
			}
		}
	}
}

func TestValueInRejects(t *testing.T) {
	for _, s := range []string{
		"", "-1", "+1", " 1", "1 ", "1_0", "1,0", "1.0", "0x1", "0X1", "g", "G", "1g", "1\x00", "\x101", "1\n",
		"é1", "１", "٣", "\ufffd", "1\xff", "-", "1-", "--1", "1e+2",
	} {
		for base := 2; base <= 16; base++ {
			if got := impl.ValueIn(s, base); got != -1 {
				t.Errorf("ValueIn(%q, %d) = %d", s, base, got)
			}
		}
	}
	for _, base := range badBases {
		for _, s := range []string{"", "0", "1", "10"} {
			if got := impl.ValueIn(s, base); got != -1 {
				t.Errorf("ValueIn(%q, %d) = %d", s, base, got)
			}
		}
	}
	for base := 2; base <= 16; base++ {
		// A number that is greater by a power of 2 would be small again if it wrapped around.
		for _, more := range []string{"0", "4294967296", "18446744073709551616", "340282366920938463463374607431768211456"} {
			amount, _ := new(big.Int).SetString(more, 10)
			for _, n := range []int64{1, impl.MaxWhole + 1, 1 << 63 >> 1} {
				s := amount.Add(amount, big.NewInt(n)).Text(base)
				if got := impl.ValueIn(s, base); amount.Cmp(big.NewInt(impl.MaxWhole)) > 0 && got != -1 {
					t.Errorf("ValueIn(%q, %d) = %d", s, base, got)
				}
			}
		}
		if got := impl.ValueIn("1"+strings.Repeat("0", 1000), base); got != -1 {
			t.Errorf("ValueIn of 1 with 1000 zeros behind it in the base %d = %d", base, got)
		}
	}
}

func TestGroupDigitsExamples(t *testing.T) {
	for _, c := range []struct {
		s    string
		n    int
		sep  string
		want string
	}{
		{"", 3, ",", ""},
		{"1", 3, ",", "1"},
		{"12", 3, ",", "12"},
		{"123", 3, ",", "123"},
		{"1234", 3, ",", "1,234"},
		{"123456", 3, ",", "123,456"},
		{"1234567", 3, ",", "1,234,567"},
		{"0001", 3, "_", "0_001"},
		{"fffff", 4, "_", "f_ffff"},
		{"123", 1, ",", "1,2,3"},
		{"1", 1, ",", "1"},
		{"123456789", 9, ",", "123456789"},
		{"1234567890", 9, ",", "1,234567890"},
		{"-1234", 2, ",", "-,12,34"},
		{",,,,", 3, ",", ",,,,,"},
		{"a\x00\xffb", 2, "\xfe", "a\x00\xfe\xffb"},
		{"éé", 1, "é"[:1], "\xc3\xc3\xa9\xc3\xc3\xc3\xa9"},
	} {
		if got := impl.GroupDigits(c.s, c.n, c.sep); got != c.want {
			t.Errorf("GroupDigits(%q, %d, %q) = %q, want %q", c.s, c.n, c.sep, got, c.want)
		}
	}
}

// textsOfSizes calls f with texts of all sizes that a text can have.
func textsOfSizes(f func(s string)) {
	for size := range impl.MaxText + 1 {
		for _, all := range []string{strings.Repeat("0123456789", 8), strings.Repeat("0", 80), strings.Repeat("a \xff\n-\x00", 14)} {
			f(all[:size])
		}
	}
}

func TestPromise24GroupsAreTakenApart(t *testing.T) {
	textsOfSizes(func(s string) {
		for n := 1; n <= 9; n++ {
			for _, sep := range []string{",", "_", ".", "\xfe"} {
				grouped := impl.GroupDigits(s, n, sep)
				if want := groupedBy(s, n, sep); grouped != want {
					t.Fatalf("GroupDigits(%q, %d, %q) = %q, want %q", s, n, sep, grouped, want)
				}
				if marks := strings.Count(grouped, sep); s != "" && marks != (len(s)+n-1)/n-1 {
					t.Fatalf("GroupDigits(%q, %d, %q) = %q with %d marks", s, n, sep, grouped, marks)
				}
				got, ok := impl.UngroupDigits(grouped, n, sep)
				if len(grouped) > impl.MaxText {
					if got != "" || ok {
						t.Fatalf("UngroupDigits(%q, %d, %q) = %q, %v", grouped, n, sep, got, ok)
					}
				} else if got != s || !ok {
					t.Fatalf("UngroupDigits(%q, %d, %q) = %q, %v, want %q", grouped, n, sep, got, ok, s)
				}
			}
		}
	})
}

func TestPromise25WhatIsTakenApartIsPutTogether(t *testing.T) {
	for n := 1; n <= 9; n++ {
		size := strconv.Itoa(n)
		grouped := regexp.MustCompile(`^([^,]{1,` + size + `}(,[^,]{` + size + `})*)?$`)
		check := func(s string) {
			want, wantOK := "", grouped.MatchString(s)
			if wantOK {
				want = strings.ReplaceAll(s, ",", "")
			}
			got, ok := impl.UngroupDigits(s, n, ",")
			if got != want || ok != wantOK {
				t.Fatalf("UngroupDigits(%q, %d) = %q, %v, want %q, %v", s, n, got, ok, want, wantOK)
			}
			if back := impl.GroupDigits(got, n, ","); ok && back != s {
				t.Fatalf("GroupDigits(%q, %d) = %q, want %q", got, n, back, s)
			}
		}
		eachText("", "0a,", 8, check)
		for _, start := range []string{"1,23456789,", "12345678,", ",123456789", "1,123,"} {
			eachText(start, "0,", 10, check)
		}
	}
}

func TestUngroupDigitsExamples(t *testing.T) {
	for _, c := range []struct {
		s    string
		n    int
		sep  string
		want string
		ok   bool
	}{
		{"", 3, ",", "", true},
		{"12", 3, ",", "12", true},
		{"1,234", 3, ",", "1234", true},
		{"0,000,001", 3, ",", "0000001", true},
		{"1,2,3", 1, ",", "123", true},
		{"1,234567890", 9, ",", "1234567890", true},
		{"1,234", 3, "_", "", false},
		{"1234", 3, ",", "", false},
		{"12,34", 3, ",", "", false},
		{"1,2345", 3, ",", "", false},
		{",123", 3, ",", "", false},
		{"123,", 3, ",", "", false},
		{",1,234,", 3, ",", "", false},
		{"1,,234", 3, ",", "", false},
		{",", 3, ",", "", false},
		{",,", 1, ",", "", false},
		{"1,23,456", 3, ",", "", false},
		{"1,234567890,", 9, ",", "", false},
	} {
		if got, ok := impl.UngroupDigits(c.s, c.n, c.sep); got != c.want || ok != c.ok {
			t.Errorf("UngroupDigits(%q, %d, %q) = %q, %v, want %q, %v", c.s, c.n, c.sep, got, ok, c.want, c.ok)
		}
	}
}

func TestGroupsRejectOtherArguments(t *testing.T) {
	check := func(s string, n int, sep string) {
		t.Helper()
		if got := impl.GroupDigits(s, n, sep); got != "" {
			t.Errorf("GroupDigits(%q, %d, %q) = %q", s, n, sep, got)
		}
		if got, ok := impl.UngroupDigits(s, n, sep); got != "" || ok {
			t.Errorf("UngroupDigits(%q, %d, %q) = %q, %v", s, n, sep, got, ok)
		}
	}
	for _, s := range []string{"", "1", "1234", "1,234", "1,2,3,4"} {
		for _, n := range badGroups {
			check(s, n, ",")
		}
		for _, sep := range []string{"", ",,", ", ", "é", "\xff\xff", "1234567890"} {
			check(s, 3, sep)
		}
	}
	// Without the marks it would not be too long.
	long := strings.Repeat("1,", 40) + "1"
	if len(long) != impl.MaxText+1 {
		t.Fatalf("%q has %d bytes", long, len(long))
	}
	check(long, 1, ",")
	if got, ok := impl.UngroupDigits(long[2:], 1, ","); got != strings.Repeat("1", 40) || !ok {
		t.Errorf("UngroupDigits(%q) = %q, %v", long[2:], got, ok)
	}
	check(strings.Repeat("1", impl.MaxText+1), 9, ",")
	check(strings.Repeat("1", 1000), 3, ",")
}

func TestWidenDigitsExamples(t *testing.T) {
	for _, c := range []struct {
		s        string
		width, n int
		sep      string
		want     string
	}{
		{"5", 4, 3, ",", "0,005"},
		{"5", 3, 3, ",", "005"},
		{"5", 5, 3, ",", "0,005"},
		{"5", 6, 3, ",", "00,005"},
		{"5", 7, 3, ",", "000,005"},
		{"5", 8, 3, ",", "0,000,005"},
		{"5", 4, 3, "", "0005"},
		{"1234", 7, 3, ",", "001,234"},
		{"1234", 8, 3, ",", "0,001,234"},
		{"1234", 5, 3, ",", "1,234"},
		{"1234", 0, 3, ",", "1,234"},
		{"1234", 0, 3, "", "1234"},
		{"", 0, 3, ",", ""},
		{"", 0, 3, "", ""},
		{"", 1, 3, ",", "0"},
		{"", 4, 3, ",", "0,000"},
		{"", 30, 9, "", "000000000000000000000000000000"},
		{"f", 5, 4, "_", "0_000f"},
		{"f", 6, 4, "_", "0_000f"},
		{"1", 2, 1, ",", "0,1"},
		{"1", 3, 1, ",", "0,1"},
		{"1", 4, 1, ",", "0,0,1"},
		{"1", 10, 9, ",", "0,000000001"},
		{"1", 9, 9, ",", "000000001"},
		{"1,2", 5, 3, ",", "0,1,2"},
	} {
		if got := impl.WidenDigits(c.s, c.width, c.n, c.sep); got != c.want {
			t.Errorf("WidenDigits(%q, %d, %d, %q) = %q, want %q", c.s, c.width, c.n, c.sep, got, c.want)
		}
	}
}

func TestPromise26WidenedDigitsAreAsWideAsTheyMustBe(t *testing.T) {
	for _, size := range []int{0, 1, 2, 3, 4, 5, 8, 9, 10, 15, 19, 20, 21, 22, 23, 24, 27, 29, 30, 31, 79, 80} {
		s := strings.Repeat("9876543210", 8)[:size]
		for width := 0; width <= impl.MaxWidth; width++ {
			for n := 1; n <= 9; n++ {
				for _, sep := range []string{",", "_", "."} {
					checkWidened(t, s, width, n, sep)
				}
				want := strings.Repeat("0", max(0, width-size)) + s
				if got := impl.WidenDigits(s, width, n, ""); got != want {
					t.Fatalf("WidenDigits(%q, %d, %d, \"\") = %q, want %q", s, width, n, got, want)
				}
			}
		}
	}
}

// checkWidened checks the digits with zeros ahead, in groups.
func checkWidened(t *testing.T, s string, width int, n int, sep string) {
	t.Helper()
	got := impl.WidenDigits(s, width, n, sep)
	if want := widenedBy(s, width, n, sep); got != want {
		t.Fatalf("WidenDigits(%q, %d, %d, %q) = %q, want %q", s, width, n, sep, got, want)
	}
	digits := strings.ReplaceAll(got, sep, "")
	zeros, ok := strings.CutSuffix(digits, s)
	if !ok || strings.Trim(zeros, "0") != "" || len(got) < width || zeros != "" && len(got) > width+1 {
		t.Fatalf("WidenDigits(%q, %d, %d, %q) = %q", s, width, n, sep, got)
	}
}

func TestWidenDigitsRejects(t *testing.T) {
	for _, sep := range []string{"", ","} {
		for _, s := range []string{"", "1", "1234"} {
			for _, width := range outOfRange(0, impl.MaxWidth) {
				if got := impl.WidenDigits(s, width, 3, sep); got != "" {
					t.Errorf("WidenDigits(%q, %d, 3, %q) = %q", s, width, sep, got)
				}
			}
			for _, n := range badGroups {
				for _, width := range []int{0, 5, impl.MaxWidth} {
					if got := impl.WidenDigits(s, width, n, sep); got != "" {
						t.Errorf("WidenDigits(%q, %d, %d, %q) = %q", s, width, n, sep, got)
					}
				}
			}
		}
		long := strings.Repeat("1", impl.MaxText+1)
		if got := impl.WidenDigits(long, 5, 9, sep); got != "" {
			t.Errorf("WidenDigits(%q, 5, 9, %q) = %q", long, sep, got)
		}
	}
	for _, sep := range []string{",,", "é", "   "} {
		if got := impl.WidenDigits("1", 5, 3, sep); got != "" {
			t.Errorf("WidenDigits(1, 5, 3, %q) = %q", sep, got)
		}
	}
}
