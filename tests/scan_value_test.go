package tests

import (
	"slices"
	"strings"
	"testing"

	"loop.example/formatplans/impl"
)

func TestCanScanExamples(t *testing.T) {
	for _, s := range []string{
		"", "plain", "{{}}", "{}", "{}{}", "{}{}{}", "a{}", "{}a", "a{}b{}c", "{{{}}}", "{:s}", "{:.3}", "{:.0s}", "{:<}", "{:*>}", "{:^s}", "{:~<.9s}",
		"{:d}", "{:+d}", "{:-d}", "{: d}", "{:#d}", "{:0d}", "{:,d}", "{:_d}", "{:b}", "{:_b}", "{:o}", "{:x}", "{:#x}", "{:_X}", "{:=d}", "{:*=+#0,d}", "{:0=#_x}",
		"{:f}", "{:e}", "{:E}", "{:g}", "{:G}", "{:%}", "{:.0f}", "{:#.9g}", "{:,f}", "{:_.2f}", "{:+,.2%}", "{:*=+#0,.2f}",
		"{:d}{:x}{:s}{:f}", "{:d},{:d}", strings.Repeat("{}", impl.MaxPieces), strings.Repeat("-{:d}", impl.MaxPieces/2),
		strings.Repeat("a", impl.MaxTemplate), strings.Repeat("{{", impl.MaxTemplate/2-1) + "{}",
	} {
		if p := mustTemplate(t, s); !impl.CanScan(p) || !canScanBy(p) {
			t.Errorf("CanScan(%q) = false", s)
		}
	}
}

// notScanned has texts of templates that cannot be scanned, each because of one field.
var notScanned = []string{
	"{a}", "{abcd}", "{0}", "{9}", "{a:d}", "{0:s}", "{}{a}", "{a}{}", "{0}{1}",
	"{!s}", "{!r}", "{!s:.2}", "{!r:s}", "{a!s}", "{}{!s}", "{!r}{}",
	"{:{}}", "{:{a}}", "{:.{}f}", "{:{}d}", "{:{}{}}", "{:<{}}", "{:{}s}", "{}{:{}}",
	"{:q}", "{: 5 }", "{:a}", "{:.}", "{:00}", "{:31}", "{:.10f}", "{::}", "{:!s}", "{:>>>}", "{:fd}", "{:d }", "{}{:q}{}",
	"{:1}", "{:5d}", "{:05d}", "{:30}", "{:*<5}", "{:5s}", "{:5.2f}", "{:08,d}", "{:1x}", "{}{:1}",
	"{:c}", "{:<c}", "{:*^c}", "{:5c}", "{:+c}",
	"{:+}", "{:-}", "{: }", "{:#}", "{:0}", "{:,}", "{:_}", "{:=}", "{:*=}", "{:+s}", "{: s}", "{:-s}", "{:#s}", "{:0s}", "{:,s}", "{:_s}", "{:=s}",
	"{:.2d}", "{:.0d}", "{:.2x}", "{:,x}", "{:,b}", "{:,o}", "{:,X}", "{:,.0d}",
}

func TestCanScanRejects(t *testing.T) {
	templates := notTemplates()
	for _, s := range notScanned {
		templates = append(templates, mustTemplate(t, s))
	}
	for _, p := range templates {
		if impl.CanScan(p) || canScanBy(p) {
			t.Errorf("CanScan(%+v) = true", p)
		}
		for _, text := range []string{"", "a", "5", "-1.5", "ab"} {
			if got := impl.ScanAll(p, text); got != nil {
				t.Errorf("ScanAll(%+v, %q) = %+v", p, text, got)
			}
			if got, ok := impl.ScanFirst(p, text); ok || got != nil {
				t.Errorf("ScanFirst(%+v, %q) = %+v, %v", p, text, got, ok)
			}
			if impl.ScansOnly(p, text) {
				t.Errorf("ScansOnly(%+v, %q) = true", p, text)
			}
		}
	}
}

func TestPromise72WhatCanBeScannedHasNoNames(t *testing.T) {
	check := func(p impl.Template) bool {
		got := impl.CanScan(p)
		if got != canScanBy(p) {
			t.Fatalf("CanScan(%+v) = %v", p, got)
		}
		if got && (!impl.ValidTemplate(p) || slices.ContainsFunc(impl.NamesOf(p), func(name string) bool { return name != "" })) {
			t.Fatalf("CanScan(%+v) = true", p)
		}
		return got
	}
	eachTemplate(func(p impl.Template) { check(p) })
	for _, p := range longTemplates() {
		check(p)
	}
	can := 0
	eachWord("", []string{"a", "}}", "{}", "{:d}", "{:.2f}", "{:5d}", "{:c}", "{:+}", "{:q}", "{!s}", "{a}", "{0}", "{:{}}"}, 3, func(s string) {
		if p, ok := impl.ParseTemplate(s); ok && check(p) {
			can++
		}
	})
	if can < 100 {
		t.Errorf("only %d templates can be scanned", can)
	}
}

func TestCanScanByTheSpecification(t *testing.T) {
	count := 0
	eachSpec(func(s impl.Spec) {
		if s.Width > 1 || s.Prec > 0 && s.Width > 0 {
			return
		}
		text := impl.SpecText(s)
		p := templateOf(fieldOf("", ""))
		if text != "" {
			p = templateOf(fieldOf("", "", subText(text)))
		}
		_, want := scannedKind(text)
		if got := impl.CanScan(p); got != want {
			t.Fatalf("CanScan of the specification %q = %v", text, got)
		}
		if v, ok := impl.ReadValue(s, "~"); !want && (ok || v != impl.Value{}) {
			t.Fatalf("ReadValue(%q, %q) = %+v, %v", text, "~", v, ok)
		}
		if want {
			count++
		}
	})
	if count < 1000 {
		t.Errorf("only %d specifications can be scanned", count)
	}
}

func TestReadValueReads(t *testing.T) {
	longest := strings.Repeat("ab", impl.MaxText/2)
	for _, c := range []struct {
		spec, text string
		want       impl.Value
	}{
		{"", "", textOf("")}, {"", "abc", textOf("abc")}, {"", " a ", textOf(" a ")}, {"", "12", textOf("12")}, {"", "{}", textOf("{}")}, {"", longest, textOf(longest)},
		{"s", "", textOf("")}, {"s", "abc", textOf("abc")}, {"*>", "a*", textOf("a*")}, {".3", "abc", textOf("abc")}, {".3s", "ab", textOf("ab")}, {".3", "", textOf("")}, {".0", "", textOf("")},
		{".9s", "123456789", textOf("123456789")},
		{"d", "0", intOf(0)}, {"d", "5", intOf(5)}, {"d", "-5", intOf(-5)}, {"-d", "-5", intOf(-5)}, {"#d", "5", intOf(5)}, {"0d", "5", intOf(5)}, {"*^d", "5", intOf(5)}, {"0=d", "5", intOf(5)},
		{"d", "999999999999", intOf(impl.MaxWhole)}, {"d", "-999999999999", intOf(-impl.MaxWhole)},
		{"+d", "+5", intOf(5)}, {"+d", "-5", intOf(-5)}, {"+d", "+0", intOf(0)}, {" d", " 5", intOf(5)}, {" d", "-5", intOf(-5)}, {" d", " 0", intOf(0)},
		{",d", "123", intOf(123)}, {",d", "1,234", intOf(1234)}, {",d", "-1,234,567", intOf(-1234567)}, {"_d", "1_234", intOf(1234)}, {"+,d", "+999,999,999,999", intOf(impl.MaxWhole)},
		{"b", "101", intOf(5)}, {"#b", "0b101", intOf(5)}, {"_b", "1_0000", intOf(16)}, {"o", "17", intOf(15)}, {"#o", "-0o17", intOf(-15)},
		{"x", "ff", intOf(255)}, {"#x", "0xff", intOf(255)}, {"#x", "0x0", intOf(0)}, {"+#x", "+0xff", intOf(255)}, {"_x", "f_ffff", intOf(0xfffff)}, {"#_x", "-0x1_0000", intOf(-0x10000)},
		{"X", "FF", intOf(255)}, {"#X", "0XFF", intOf(255)}, {"x", "b1", intOf(0xb1)}, {"x", "e8d4a50fff", intOf(impl.MaxWhole)},
		{"f", "1.500000", decOf(dec(15, -1))}, {"f", "-0.000001", decOf(dec(-1, -6))}, {"f", "0.000000", decOf(dec(0, 0))}, {".2f", "2.50", decOf(dec(25, -1))}, {".0f", "20", decOf(dec(2, 1))},
		{".9f", "0.123456789", decOf(dec(123456789, -9))}, {"#.0f", "5.", decOf(dec(5, 0))}, {"+.1f", "+0.0", decOf(dec(0, 0))}, {" .1f", " 0.5", decOf(dec(5, -1))}, {"+.1f", "-0.5", decOf(dec(-5, -1))},
		{",.1f", "1,234.5", decOf(dec(12345, -1))}, {"_.1f", "-1_234_567.5", decOf(dec(-12345675, -1))}, {",f", "999.000000", decOf(dec(999, 0))}, {".0f", "999999999000000000000", decOf(dec(999999999, 12))},
		{".2e", "1.50e+03", decOf(dec(15, 2))}, {".0e", "1e-05", decOf(dec(1, -5))}, {"#.0e", "1.e+00", decOf(dec(1, 0))}, {"E", "1.000000E+00", decOf(dec(1, 0))}, {".0e", "0e+00", decOf(dec(0, 0))},
		{"g", "1.5", decOf(dec(15, -1))}, {"g", "1e+06", decOf(dec(1, 6))}, {"G", "1E-05", decOf(dec(1, -5))}, {"#.3g", "1.50", decOf(dec(15, -1))}, {"g", "0", decOf(dec(0, 0))}, {"#.1g", "5.", decOf(dec(5, 0))},
		{"%", "50.000000%", decOf(dec(5, -1))}, {".0%", "-50%", decOf(dec(-5, -1))}, {"#.0%", "5.%", decOf(dec(5, -2))}, {",.1%", "1,234.5%", decOf(dec(12345, -3))},
	} {
		if got, ok := impl.ReadValue(mustParse(t, c.spec), c.text); !ok || got != c.want {
			t.Errorf("ReadValue(%q, %q) = %+v, %v, want %+v", c.spec, c.text, got, ok, c.want)
		}
		if got, ok := readBy(c.spec, c.text); !ok || got != c.want {
			t.Errorf("readBy(%q, %q) = %+v, %v, want %+v", c.spec, c.text, got, ok, c.want)
		}
	}
}

// unread has, for each specification, texts that it does not write for any value, or not for the one that is read.
var unread = map[string][]string{
	"d":      {"", "-", "+5", " 5", "05", "-05", "00", "-0", "+0", "5 ", "--5", "1,234", "1_234", "5.", "1.0", "5e0", "a", "0x5", "1000000000000", "-1000000000000", "５"},
	"-d":     {"+5", " 5", "-0"},
	"+d":     {"5", " 5", "0", "-0", " 0", "+05", "++5", "+", "+-5"},
	" d":     {"5", "+5", "0", "-0", "+0", "  5", " 05", " -5", " "},
	"0d":     {"05", "00"},
	"*>d":    {"*5", " 5"},
	",d":     {"1234", "12,34", "1,23", ",123", "123,", "1,,234", "1_234", "0,001,234", "01,234", "000", "1,234,56", "-,123", "1234,567", ",", "-0", "+1,234"},
	"_d":     {"1234", "1,234", "1_2345", "12_34", "_123", "1__234", "0_001"},
	"b":      {"2", "0b101", "0101", "012", "-0", "0B1", "1_0000", "b101", "0b"},
	"#b":     {"101", "0B101", "0b0101", "0b", "-0b0", "b1", "0x1", "0b2"},
	"_b":     {"10000", "10_000", "1_0000_", "0_0001", "_1"},
	"o":      {"8", "0o17", "017", "0O17"},
	"#o":     {"17", "0O17", "0o017", "0o8"},
	"x":      {"FF", "fF", "0xff", "0ff", "0XFF", "g", "-0", "+ff", "f_ffff", "e8d4a51000"},
	"#x":     {"ff", "0xFF", "0XFF", "0x", "0x0ff", "-0x0", "0x-1", "x1", "0xg"},
	"X":      {"ff", "Ff", "0XFF", "0FF", "G"},
	"#X":     {"FF", "0xFF", "0Xff", "0X0FF", "-0X0"},
	"_x":     {"fffff", "ff_fff", "_ffff", "f_FFFF", "0_ffff"},
	"f":      {"", ".", "1", "1.", "1.5", "1.50000", "1.5000000", "01.500000", ".500000", "+1.500000", " 1.500000", "-0.000000", "+0.000000", "1,234.500000", "1.500000%", "1.500000e+00", "1.500000E0", "1..500000", "1.500.000", "1234567891.500000", "1.500000 "},
	".2f":    {"2.5", "2.500", "2.", "2", "02.50", "-0.00", ".50", "2,50", "2.5a", "250e-2", "--2.50", "1,000.00"},
	".0f":    {"5.", "5.0", ".5", ".", "-0", "05", "0.", "+5", "1e3", "1000000000000000000000"},
	"#.0f":   {"5", "5.0", ".", "-0.", "05."},
	"+.1f":   {"0.5", " 0.5", "-0.0", "0.0", "+.5", "+00.5", "+0.50"},
	" .1f":   {"0.5", "+0.5", "-0.0", "0.0", "  0.5"},
	",.1f":   {"1234.5", "12,34.5", "1,23.5", ",123.5", "1,234.5,", "1,234,.5", "0,001.5", "1_234.5", "1,234.50", "1,234", "1,2,34.5", "-,123.5", "1,234.,5", "1234,567.5"},
	"_.1f":   {"1234.5", "1,234.5", "12_34.5", "1_234.5_", "_1.5"},
	".2e":    {"1.50e+3", "1.50e03", "1.50e3", "1.50E+03", "15.00e+02", "0.15e+04", "1.5e+03", "1.500e+03", "1500", "-0.00e+00", "0.00e+01", "0.00e-00", "1.50e+003", "1.50e-00", "1.50e+99", "1.50e+100", "1.50e"},
	".0e":    {"1.e+00", "10e+00", "0e-00", "1E+00", "1", "-0e+00"},
	"#.0e":   {"1e+00", "1.0e+00"},
	"E":      {"1.000000e+00", "1E+00", "1.000000E+0"},
	"g":      {"1.50", "1.", "1000000", "1e6", "1E+06", "1.0e+06", "10e+05", "0.00001", "1234567", "-0", "0.0", ".5", "+1", "1e-5"},
	"G":      {"1e+06", "1e-05", "1.50"},
	"#.3g":   {"1.5", "1.500", "1.", "1.5e+00"},
	"%":      {"50%", "50.000000", "0.500000", "-0.000000%", "50.000000%%", "%", "50.000000 %"},
	".0%":    {"50", "0.5", "50.%", "050%", "-0%", "%", "50%%", "+50%", "5e1%"},
	"s":      {"\n", "\x7f", "é", "a\x00"},
	".3":     {"abcd", "    ", strings.Repeat("a", impl.MaxText)},
	".0":     {"a", " ", "0"},
	".9s":    {"1234567890"},
	"":       {"\x1f", "\xff", strings.Repeat("a", impl.MaxText+1)},
	"+":      {"", "a", "+5"},
	"=":      {"", "a"},
	",":      {"", "1,234"},
	"0":      {"", "0", "a"},
	"5":      {"", "a", "abcde", "a    "},
	"5d":     {"5", "    5", "12345"},
	"05d":    {"00005", "12345"},
	"1":      {"a"},
	"c":      {"A", "65", ""},
	"<c":     {"A"},
	",x":     {"1", "ff"},
	".2d":    {"5", "5.00"},
	"5.1f":   {"  1.5", "123.5", "1.5"},
	"+s":     {"", "a", "+5"},
	"30s":    {strings.Repeat("a", 30)},
	"*<30.9": {""},
}

func TestReadValueRejects(t *testing.T) {
	for spec, texts := range unread {
		for _, text := range texts {
			if v, ok := impl.ReadValue(mustParse(t, spec), text); ok || v != (impl.Value{}) {
				t.Errorf("ReadValue(%q, %q) = %+v, %v", spec, text, v, ok)
			}
		}
	}
	for _, s := range invalidSpecs() {
		for _, text := range []string{"", "a", "5", "1.5"} {
			if v, ok := impl.ReadValue(s, text); ok || v != (impl.Value{}) {
				t.Errorf("ReadValue(%+v, %q) = %+v, %v", s, text, v, ok)
			}
		}
	}
	for _, spec := range []string{"", "s", "d", "x", "f", "g"} {
		for _, text := range notTexts() {
			if v, ok := impl.ReadValue(mustParse(t, spec), text); ok || v != (impl.Value{}) {
				t.Errorf("ReadValue(%q, %q) = %+v, %v", spec, text, v, ok)
			}
		}
	}
}

func TestReadValueUpToTheLongestText(t *testing.T) {
	for size := range impl.MaxText + 3 {
		text := strings.Repeat("7", size)
		if v, ok := impl.ReadValue(noMarks, text); ok != (size <= impl.MaxText) || ok && v != textOf(text) || !ok && v != (impl.Value{}) {
			t.Errorf("ReadValue of %d bytes = %+v, %v", size, v, ok)
		}
		for prec := range impl.MaxPrec + 1 {
			if v, ok := impl.ReadValue(impl.Spec{Prec: prec, Type: "s"}, text); ok != (size <= prec) || ok && v != textOf(text) {
				t.Errorf("ReadValue of %d bytes with Prec %d = %+v, %v", size, prec, v, ok)
			}
		}
		if v, ok := impl.ReadValue(mustParse(t, "d"), text); ok != (size > 0 && size <= 12) {
			t.Errorf("ReadValue of %d digits = %+v, %v", size, v, ok)
		}
		if v, ok := impl.ReadValue(mustParse(t, ".0f"), text); ok != (size > 0 && size <= 9) {
			t.Errorf("ReadValue of %d digits of a decimal = %+v, %v", size, v, ok)
		}
	}
}

// checkValue checks what ReadValue gives.
func checkValue(t *testing.T, spec string, s impl.Spec, text string) bool {
	t.Helper()
	want, wantOK := readBy(spec, text)
	got, ok := impl.ReadValue(s, text)
	if ok != wantOK || got != want {
		t.Fatalf("ReadValue(%q, %q) = %+v, %v, want %+v, %v", spec, text, got, ok, want, wantOK)
	}
	if !ok {
		return false
	}
	if back, backOK := impl.FormatValue(s, got); back != text || !backOK || !impl.ValidValue(got) {
		t.Fatalf("FormatValue(%q, %+v) = %q, %v, want %q", spec, got, back, backOK, text)
	}
	return true
}

func TestPromise73WhatIsReadIsWrittenSo(t *testing.T) {
	for _, c := range []struct {
		specs []string
		bytes string
		size  int
	}{
		{[]string{"d", "+d", " d", "#d", "0d", ",d", "_d"}, "012-+ ,_", 5},
		{[]string{"b", "#b", "_b", "+#_b", "o", "#o", "_o"}, "0128bo-_", 5},
		{[]string{"x", "#x", "_x", "X", "#X", " #X"}, "01aAxX-_", 5},
		{[]string{".1f", "+.1f", " .0f", "#.0f", ",.1f", "_.0f", ".0%", "+#.1%"}, "015.-+,%", 5},
		{[]string{".0e", ".1e", "#.0E", "g", "#.2g", ".1G", "f"}, "01.eE+-", 5},
		{[]string{"", "s", ".2", ".0s", "*>.3"}, "a *", 5},
	} {
		read := 0
		for _, spec := range c.specs {
			s := mustParse(t, spec)
			eachText("", c.bytes, c.size, func(text string) {
				if checkValue(t, spec, s, text) {
					read++
				}
			})
		}
		if read < 100 {
			t.Errorf("only %d texts are read by %q", read, c.specs)
		}
	}
}

func TestPromise73WhatIsWrittenIsRead(t *testing.T) {
	read := 0
	for _, spec := range []string{
		"", "s", ".3", "d", "+d", " d", ",d", "_d", "b", "#b", "_b", "o", "#o", "x", "#x", "_x", "X", "+#_X", "*=d",
		"f", ".0f", "#.0f", "+,.9f", "_.2f", "e", ".0e", "#.0E", ".8e", "g", "G", ".1g", "#.9g", ",g", "%", ".0%", "+,.2%", "#.0%",
	} {
		s := mustParse(t, spec)
		for _, v := range sampleValues() {
			text, ok := impl.FormatValue(s, v)
			if !ok || !impl.ValidText(text) {
				continue
			}
			read++
			found := checkValue(t, spec, s, text)
			back, _ := impl.ReadValue(s, text)
			if v.Kind == impl.VaInt && s.Type != "" && (!found || back != v) {
				t.Fatalf("ReadValue(%q, %q) = %+v, want %+v", spec, text, back, v)
			}
		}
	}
	if read < 1000 {
		t.Errorf("only %d texts are read", read)
	}
}
