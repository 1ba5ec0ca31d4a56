package tests

import (
	"slices"
	"strings"
	"testing"

	"loop.example/formatplans/impl"
)

func TestScanAllExamples(t *testing.T) {
	for _, c := range []struct{ s, text, want string }{
		{"", "", ";"}, {"", "a", ""}, {"a", "a", ";"}, {"a", "", ""}, {"a", "b", ""}, {"a", "aa", ""}, {"a", "ba", ""}, {"ab", "a", ""}, {"{{}}", "{}", ";"}, {"{{", "{{", ""},
		{"{}", "", "[];"}, {"{}", "abc", "[abc];"}, {"{}", "{}", "[{}];"}, {"{:d}", "", ""}, {"{:d}", "-12", "[-12];"}, {"{:d}", "12a", ""}, {"{:d}", "a12", ""}, {"{:.2f}", "2.50", "[2.5];"},
		{"{}{}", "", "[][];"}, {"{}{}", "ab", "[][ab];[a][b];[ab][];"}, {"{}{}{}", "ab", "[][][ab];[][a][b];[][ab][];[a][][b];[a][b][];[ab][][];"},
		{"{:d}{:d}", "12", "[1][2];"}, {"{:d}{:d}", "1", ""}, {"{:d}{:d}", "123", "[1][23];[12][3];"}, {"{:d}{:d}", "102", "[10][2];"}, {"{:d}{:d}", "1-2", "[1][-2];"}, {"{:d}{:d}{:d}", "1234", "[1][2][34];[1][23][4];[12][3][4];"},
		{"{:d}{}", "12a", "[1][2a];[12][a];"}, {"{}{:d}", "a12", "[a][12];[a1][2];"}, {"{}{:d}", "a-12", "[a][-12];[a-][12];[a-1][2];"}, {"{}{:+d}", "a+12", "[a][12];"}, {"{:x}{}", "1f", "[1][f];[31][];"},
		{"{},{}", "a,b", "[a][b];"}, {"{},{}", "a,b,c", "[a][b,c];[a,b][c];"}, {"{},{}", ",", "[][];"}, {"{},{}", "ab", ""}, {"{:d},{:d}", "1,-2", "[1][-2];"}, {"{:,d},{:,d}", "1,234,567", "[1][234567];[1234][567];"},
		{"{}a{}", "aaa", "[][aa];[a][a];[aa][];"}, {"a{}a", "aa", "[];"}, {"a{}a", "a", ""}, {"a{}a", "aaa", "[a];"}, {"a{}b", "axb", "[x];"}, {"a{}b", "axbc", ""}, {"a{}b", "caxb", ""}, {"a{}b", "axbb", "[xb];"},
		{"{}aa{}", "aaaa", "[][aa];[a][a];[aa][];"}, {"{:d}1{:d}", "1111", "[1][11];[11][1];"}, {"{:d}1", "11", "[1];"}, {"1{:d}", "11", "[1];"}, {"1{:d}", "1", ""},
		{"{:.1}{:.1}", "ab", "[a][b];"}, {"{:.1}{:.1}", "a", "[][a];[a][];"}, {"{:.1}{:.1}", "abc", ""}, {"{:.0}{}", "ab", "[][ab];"}, {"{:.2s}x", "abx", "[ab];"}, {"{:.2s}x", "abcx", ""},
		{"{:.1f}{:.1f}", "1.52.5", "[1.5][2.5];"}, {"{:.1f}{:.1f}", "1.512.5", "[1.5][12.5];"}, {"{:.0%}{:.0%}", "5%10%", "[0.05][0.1];"}, {"{:.0e}{}", "1e+001", "[1][1];"}, {"{:g}{}", "1.5", "[1][.5];[1.5][];"},
		{"{: d}{: d}", " 1 2", "[1][2];"}, {"{} {}", "a b c", "[a][b c];[a b][c];"}, {"{{{}}}", "{a}", "[a];"}, {"{{{}}}", "{}", "[];"}, {"{{{}}}", "{{}}", "[{}];"}, {"{:#x}{:x}", "0x1f", "[1][15];"},
	} {
		p := mustTemplate(t, c.s)
		if got := bareLists(impl.ScanAll(p, c.text)); got != c.want {
			t.Errorf("ScanAll(%q, %q) = %q, want %q", c.s, c.text, got, c.want)
		}
		if got := bareLists(waysBy(p, c.text)); got != c.want {
			t.Errorf("waysBy(%q, %q) = %q, want %q", c.s, c.text, got, c.want)
		}
	}
}

func TestScansGiveValuesOfTheirKinds(t *testing.T) {
	p := mustTemplate(t, "{:d} {:s} {:.0f} {}")
	want := []impl.Value{intOf(5), textOf("5"), decOf(dec(5, 0)), textOf("5")}
	if got, ok := impl.ScanFirst(p, "5 5 5 5"); !ok || !slices.Equal(got, want) {
		t.Errorf("ScanFirst = %+v, %v", got, ok)
	}
}

func TestScansRejectTexts(t *testing.T) {
	for _, s := range []string{"", "{}", "{}{}", "a{}", "{}b", "{:d}{}", "{:.3}{}"} {
		p := mustTemplate(t, s)
		for _, text := range notTexts() {
			lists := impl.ScanAll(p, text)
			first, ok := impl.ScanFirst(p, text)
			if lists != nil || first != nil || ok || impl.ScansOnly(p, text) {
				t.Errorf("%q scans %q: %+v, %+v, %v", s, text, lists, first, ok)
			}
		}
	}
}

// checkScan checks what the three functions that scan give.
func checkScan(t *testing.T, c scan) {
	t.Helper()
	want := c.ways[:min(len(c.ways), impl.MaxScans)]
	if got := impl.ScanAll(c.t, c.text); !sameLists(got, want) {
		t.Fatalf("ScanAll(%q, %q) = %q, want %q", c.s, c.text, bareLists(got), bareLists(want))
	}
	first, ok := impl.ScanFirst(c.t, c.text)
	if ok != (len(want) > 0) || ok && !slices.Equal(first, want[0]) || !ok && first != nil {
		t.Fatalf("ScanFirst(%q, %q) = %+v, %v, want %q", c.s, c.text, first, ok, bareLists(want))
	}
	if got := impl.ScansOnly(c.t, c.text); got != (len(want) == 1) {
		t.Fatalf("ScansOnly(%q, %q) = %v, want %q", c.s, c.text, got, bareLists(want))
	}
}

func TestPromise74ScannedValuesGiveTheText(t *testing.T) {
	found := 0
	eachScan(func(c scan) {
		checkScan(t, c)
		for _, list := range impl.ScanAll(c.t, c.text) {
			found++
			if got, ok := impl.FillTemplate(c.t, impl.Args{List: list}); got != c.text || !ok {
				t.Fatalf("FillTemplate(%q, %+v) = %q, %v, want %q", c.s, list, got, ok, c.text)
			}
		}
	})
	if found < 1000 {
		t.Errorf("only %d lists are found", found)
	}
}

func TestPromise74TemplatesThatCannotBeNumbered(t *testing.T) {
	s := strings.Repeat("{{", 75) + strings.Repeat("{:>s}", 9)
	p, text := mustTemplate(t, s), strings.Repeat("{", 75)
	if _, ok := impl.NumberFields(p); ok {
		t.Fatalf("NumberFields(%q) is possible", s)
	}
	if got := impl.ScanAll(p, text); bareLists(got) != strings.Repeat("[]", 9)+";" || !impl.ScansOnly(p, text) {
		t.Errorf("ScanAll(%q, %q) = %q", s, text, bareLists(got))
	}
	if got := impl.ScanAll(p, text+"a"); len(got) != 9 {
		t.Errorf("ScanAll(%q, %q) = %q", s, text+"a", bareLists(got))
	}
}

func TestPromise75NoWayIsToldTwice(t *testing.T) {
	eachScan(func(c scan) {
		lists := impl.ScanAll(c.t, c.text)
		slices.SortFunc(lists, compareLists)
		if len(slices.CompactFunc(slices.Clone(lists), slices.Equal[[]impl.Value])) != len(lists) {
			t.Fatalf("ScanAll(%q, %q) = %q", c.s, c.text, bareLists(lists))
		}
	})
}

func TestPromise76TheFirstWayIsTheFirst(t *testing.T) {
	eachScan(func(c scan) {
		lists := impl.ScanAll(c.t, c.text)
		first, ok := impl.ScanFirst(c.t, c.text)
		if ok != (len(lists) > 0) || ok && !slices.Equal(first, lists[0]) || !ok && first != nil {
			t.Fatalf("ScanFirst(%q, %q) = %+v, %v, but ScanAll %q", c.s, c.text, first, ok, bareLists(lists))
		}
	})
}

func TestPromise77SingleWaysAreSingle(t *testing.T) {
	count := map[bool]int{}
	eachScan(func(c scan) {
		only := impl.ScansOnly(c.t, c.text)
		if lists := impl.ScanAll(c.t, c.text); only != (len(lists) == 1) {
			t.Fatalf("ScansOnly(%q, %q) = %v, but ScanAll %q", c.s, c.text, only, bareLists(lists))
		}
		count[only]++
	})
	if count[true] < 100 || count[false] < 100 {
		t.Errorf("%v", count)
	}
}

func TestScansUpToTheMostWays(t *testing.T) {
	p := mustTemplate(t, "{}{}")
	for size := range impl.MaxText + 1 {
		text := strings.Repeat("ab", impl.MaxText)[:size]
		lists := impl.ScanAll(p, text)
		if len(lists) != min(size+1, impl.MaxScans) {
			t.Fatalf("ScanAll of %d bytes has %d lists", size, len(lists))
		}
		for i, list := range lists {
			if !slices.Equal(list, []impl.Value{textOf(text[:i]), textOf(text[i:])}) {
				t.Fatalf("ScanAll of %d bytes has %+v as list %d", size, list, i)
			}
		}
		if impl.ScansOnly(p, text) != (size == 0) {
			t.Fatalf("ScansOnly of %d bytes = %v", size, size != 0)
		}
	}
}

func TestScansOfTheMostFields(t *testing.T) {
	p, text := mustTemplate(t, strings.Repeat("{}", impl.MaxPieces)), strings.Repeat("a", impl.MaxText)
	lists := impl.ScanAll(p, text)
	if len(lists) != impl.MaxScans {
		t.Fatalf("ScanAll has %d lists", len(lists))
	}
	for i, list := range lists {
		want := slices.Repeat([]impl.Value{textOf("")}, impl.MaxPieces)
		want[impl.MaxPieces-2], want[impl.MaxPieces-1] = textOf(text[:i]), textOf(text[i:])
		if !slices.Equal(list, want) {
			t.Errorf("ScanAll has %+v as list %d", list, i)
		}
	}
}

// TestScansEnd has texts that could be cut in more ways than any program tries, and all or all but few of them in vain.
func TestScansEnd(t *testing.T) {
	ones := strings.Repeat("1", impl.MaxText-1)
	for _, c := range []struct {
		s, text string
		count   int
	}{
		{strings.Repeat("{}", 9) + "{:d}", strings.Repeat("a", impl.MaxText), 0},
		{strings.Repeat("{}", 9) + "{:d}", strings.Repeat("a", impl.MaxText-1) + "1", impl.MaxScans},
		{"{:d}" + strings.Repeat("{}", 8) + "b", "1" + strings.Repeat("a", impl.MaxText-1), 0},
		{strings.Repeat("{:d}", 10), ones + "a", 0},
		{strings.Repeat("{:d}", 10), ones, impl.MaxScans},
		{strings.Repeat("{:.0f}", 10), ones + ".", 0},
		{strings.Repeat("{}{:x}", 5), strings.Repeat("g", impl.MaxText), 0},
		{strings.Repeat("{}a", 5), strings.Repeat("a", impl.MaxText-1) + "b", 0},
		{strings.Repeat("{:.9}", 8), strings.Repeat("a", impl.MaxText), 0},
		{strings.Repeat("{:.9}", 9), strings.Repeat("a", impl.MaxText), 9},
		{strings.Repeat("{:.8}", 10), strings.Repeat("a", impl.MaxText), 1},
	} {
		p := mustTemplate(t, c.s)
		if got := impl.ScanAll(p, c.text); len(got) != c.count {
			t.Errorf("ScanAll(%q, %q) = %q", c.s, c.text, bareLists(got))
		}
		if got, ok := impl.ScanFirst(p, c.text); ok != (c.count > 0) {
			t.Errorf("ScanFirst(%q, %q) = %+v", c.s, c.text, got)
		}
		if got := impl.ScansOnly(p, c.text); got != (c.count == 1) {
			t.Errorf("ScansOnly(%q, %q) = %v", c.s, c.text, got)
		}
	}
}

func TestScansAreNewAndChangeNothing(t *testing.T) {
	for count := 2; count <= impl.MaxPieces; count++ {
		p, text := mustTemplate(t, strings.Repeat("{:>.9s}", count)), "abcde"
		before := cloneTemplate(p)
		lists := impl.ScanAll(p, text)
		want := cloneLists(lists)
		for i, list := range lists {
			full := list[:cap(list)]
			for k := range full {
				full[k] = intOf(i)
			}
			for k, other := range lists {
				if k != i && !slices.Equal(other, want[k]) {
					t.Fatalf("lists %d and %d of %d fields share memory: %+v, want %+v", i, k, count, other, want[k])
				}
			}
			copy(list, want[i])
		}
		first, _ := impl.ScanFirst(p, text)
		first[0] = intOf(1)
		if again := impl.ScanAll(p, text); !sameLists(again, want) || !sameTemplate(p, before) {
			t.Errorf("ScanAll of %+v = %+v, want %+v of %+v", p, again, want, before)
		}
	}
}
