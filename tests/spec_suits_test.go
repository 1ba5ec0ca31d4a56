package tests

import (
	"strings"
	"testing"

	"loop.example/formatplans/impl"
)

func TestSpecSuitsExamples(t *testing.T) {
	for _, c := range []struct {
		spec             string
		whole, dec, text bool
	}{
		{"", true, true, true},
		{"*^30", true, true, true},
		{"=5", true, true, false},
		{"05", true, true, false},
		{"-", true, true, false},
		{"+", true, true, false},
		{" ", true, true, false},
		{"#", true, false, false},
		{",", true, true, false},
		{"_", true, true, false},
		{".2", false, false, true},
		{".0", false, false, true},
		{"#.2", false, false, false},
		{",d", true, false, false},
		{"_d", true, false, false},
		{"*=+#030,d", true, false, false},
		{",b", false, false, false},
		{",o", false, false, false},
		{",x", false, false, false},
		{",X", false, false, false},
		{"_b", true, false, false},
		{"_o", true, false, false},
		{"_x", true, false, false},
		{"_X", true, false, false},
		{".0d", false, false, false},
		{".9x", false, false, false},
		{"c", true, false, false},
		{"*^30c", true, false, false},
		{"=c", false, false, false},
		{"-c", false, false, false},
		{"+c", false, false, false},
		{" c", false, false, false},
		{"#c", false, false, false},
		{"0c", false, false, false},
		{",c", false, false, false},
		{"_c", false, false, false},
		{".1c", false, false, false},
		{"*=+#030,.9f", false, true, false},
		{"e", false, true, false},
		{"E", false, true, false},
		{"#g", false, true, false},
		{"_.0G", false, true, false},
		{".2%", false, true, false},
		{"*=+030,", true, true, false},
		{"s", false, false, true},
		{"*>30.9s", false, false, true},
		{"=s", false, false, false},
		{"-s", false, false, false},
		{"+s", false, false, false},
		{" s", false, false, false},
		{"#s", false, false, false},
		{"0s", false, false, false},
		{",s", false, false, false},
		{"_s", false, false, false},
	} {
		s := mustParse(t, c.spec)
		for i, want := range []bool{c.whole, c.dec, c.text} {
			if got := impl.SpecSuits(s, kinds[i]); got != want {
				t.Errorf("SpecSuits(%q, %d) = %v", c.spec, kinds[i], got)
			}
		}
	}
}

func TestSpecSuitsByTheTable(t *testing.T) {
	eachSpec(func(s impl.Spec) {
		text := impl.SpecText(s)
		for _, kind := range kinds {
			if got := impl.SpecSuits(s, kind); got != suits[kind].MatchString(text) {
				t.Fatalf("SpecSuits(%q, %d) = %v", text, kind, got)
			}
		}
	})
}

func TestPromise17TypesSuitOneKind(t *testing.T) {
	for _, kind := range kinds {
		if !impl.SpecSuits(noMarks, kind) {
			t.Errorf("SpecSuits of nothing for the kind %d = false", kind)
		}
	}
	for i, types := range []string{"dboxXc", "feEgG%", "s"} {
		for _, name := range strings.Split(types, "") {
			s := impl.Spec{Prec: -1, Type: name}
			for _, kind := range kinds {
				if got := impl.SpecSuits(s, kind); got != (kind == kinds[i]) {
					t.Errorf("SpecSuits(%q, %d) = %v", name, kind, got)
				}
			}
		}
	}
	eachSpec(func(s impl.Spec) {
		count := 0
		for _, kind := range kinds {
			if impl.SpecSuits(s, kind) {
				count++
			}
		}
		if s.Type != "" && count > 1 {
			t.Fatalf("%+v suits %d kinds", s, count)
		}
	})
}

func TestNothingSuitsOtherArguments(t *testing.T) {
	for _, text := range []string{"", "08", "*<5", "+d", ".2f", ".2s", "c"} {
		for _, kind := range badKinds {
			checkUnsuited(t, mustParse(t, text), kind)
		}
	}
	for _, s := range invalidSpecs() {
		for _, kind := range append(badKinds, kinds...) {
			checkUnsuited(t, s, kind)
		}
		if got := impl.FillFor(s); got != "" {
			t.Errorf("FillFor(%+v) = %q", s, got)
		}
	}
}

// checkUnsuited checks the fixed results for a specification that does not suit a kind.
func checkUnsuited(t *testing.T, s impl.Spec, kind int) {
	t.Helper()
	if impl.SpecSuits(s, kind) {
		t.Fatalf("SpecSuits(%+v, %d) = true", s, kind)
	}
	if got := impl.AlignFor(s, kind); got != impl.AlNone {
		t.Fatalf("AlignFor(%+v, %d) = %d", s, kind, got)
	}
	if got := impl.PlainSpec(s, kind); got != (impl.Spec{}) {
		t.Fatalf("PlainSpec(%+v, %d) = %+v", s, kind, got)
	}
}

func TestPromise18AlignmentsAreToldOrKnown(t *testing.T) {
	for _, c := range []struct {
		text string
		kind int
		want int
	}{
		{"", impl.VaInt, impl.AlRight},
		{"", impl.VaDec, impl.AlRight},
		{"", impl.VaText, impl.AlLeft},
		{"c", impl.VaInt, impl.AlRight},
		{"30s", impl.VaText, impl.AlLeft},
		{"0", impl.VaInt, impl.AlInside},
		{"08", impl.VaDec, impl.AlInside},
		{"8", impl.VaDec, impl.AlRight},
		{"<08", impl.VaInt, impl.AlLeft},
		{"*>08", impl.VaInt, impl.AlRight},
		{"^08.2f", impl.VaDec, impl.AlCentre},
		{"=", impl.VaInt, impl.AlInside},
		{">", impl.VaText, impl.AlRight},
		{"<c", impl.VaInt, impl.AlLeft},
		{"=", impl.VaText, impl.AlNone},
		{"08", impl.VaText, impl.AlNone},
		{"<s", impl.VaInt, impl.AlNone},
		{"<.2", impl.VaDec, impl.AlNone},
	} {
		if got := impl.AlignFor(mustParse(t, c.text), c.kind); got != c.want {
			t.Errorf("AlignFor(%q, %d) = %d, want %d", c.text, c.kind, got, c.want)
		}
	}
	eachSpec(func(s impl.Spec) {
		for _, kind := range kinds {
			if !impl.SpecSuits(s, kind) {
				checkUnsuited(t, s, kind)
				continue
			}
			got := impl.AlignFor(s, kind)
			if got == impl.AlNone || s.Align != impl.AlNone && got != s.Align {
				t.Fatalf("AlignFor(%+v, %d) = %d", s, kind, got)
			}
		}
	})
}

func TestPromise19FillsAreOneByte(t *testing.T) {
	for _, c := range []struct{ text, want string }{
		{"", " "},
		{"8", " "},
		{"<8", " "},
		{"=8", " "},
		{"0", "0"},
		{"08", "0"},
		{"<08", "0"},
		{"*<08", "*"},
		{" <08", " "},
		{"0<8", "0"},
		{"<<", "<"},
		{"==", "="},
		{"->", "-"},
		{"+^0", "+"},
		{"~^", "~"},
		{"08s", "0"},
		{".2d", " "},
	} {
		if got := impl.FillFor(mustParse(t, c.text)); got != c.want {
			t.Errorf("FillFor(%q) = %q, want %q", c.text, got, c.want)
		}
	}
	check := func(s impl.Spec) {
		got := impl.FillFor(s)
		if len(got) != 1 || s.Fill != "" && got != s.Fill || s.Fill == "" && (got == "0") != s.Zero {
			t.Fatalf("FillFor(%+v) = %q", s, got)
		}
	}
	eachSpec(check)
	fillsAndAligns(printableFills(), check)
}

func TestPlainSpecExamples(t *testing.T) {
	for _, c := range []struct {
		text string
		kind int
		want string
	}{
		{"", impl.VaInt, " >-d"},
		{"", impl.VaDec, " >-"},
		{"", impl.VaText, " <s"},
		{"0", impl.VaInt, "0=-d"},
		{"08", impl.VaDec, "0=-8"},
		{"<08", impl.VaInt, "0<-8d"},
		{"*^+#012,.3f", impl.VaDec, "*^+#12,.3f"},
		{" 5_x", impl.VaInt, " > 5_x"},
		{"c", impl.VaInt, " >c"},
		{"*^3c", impl.VaInt, "*^3c"},
		{"-d", impl.VaInt, " >-d"},
		{"==+,", impl.VaInt, "==+,d"},
		{"==+,", impl.VaDec, "==+,"},
		{"%", impl.VaDec, " >-%"},
		{"-<.3", impl.VaText, "-<.3s"},
		{"30s", impl.VaText, " <30s"},
	} {
		got := impl.PlainSpec(mustParse(t, c.text), c.kind)
		if got != mustParse(t, c.want) {
			t.Errorf("PlainSpec(%q, %d) = %+v, want %q", c.text, c.kind, got, c.want)
		}
	}
}

func TestPromise20PlainSpecificationsGiveTheSame(t *testing.T) {
	eachSpec(func(s impl.Spec) {
		for _, kind := range kinds {
			if !impl.SpecSuits(s, kind) {
				continue
			}
			got := impl.PlainSpec(s, kind)
			if !impl.SpecSuits(got, kind) {
				t.Fatalf("PlainSpec(%+v, %d) = %+v does not suit", s, kind, got)
			}
			if impl.PlainSpec(got, kind) != got {
				t.Fatalf("PlainSpec(%+v, %d) = %+v is not its own", s, kind, got)
			}
			if impl.AlignFor(got, kind) != impl.AlignFor(s, kind) || impl.FillFor(got) != impl.FillFor(s) {
				t.Fatalf("PlainSpec(%+v, %d) = %+v has another alignment or fill", s, kind, got)
			}
			checkAllIsTold(t, s, kind, got)
		}
	})
}

// checkAllIsTold checks that a plain specification tells what it must, and has the rest of s.
func checkAllIsTold(t *testing.T, s impl.Spec, kind int, got impl.Spec) {
	t.Helper()
	if got.Fill == "" || got.Align == impl.AlNone || got.Zero {
		t.Fatalf("PlainSpec(%+v, %d) = %+v does not tell all", s, kind, got)
	}
	want := s
	want.Fill, want.Align, want.Zero = got.Fill, got.Align, false
	if s.Sign == impl.SiNone && kind != impl.VaText && s.Type != "c" {
		want.Sign = impl.SiMinus
	}
	if s.Type == "" {
		want.Type = []string{"d", "", "s"}[kind]
	}
	if got != want {
		t.Fatalf("PlainSpec(%+v, %d) = %+v, want %+v", s, kind, got, want)
	}
}
