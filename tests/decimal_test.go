package tests

import (
	"math/big"
	"testing"

	"loop.example/formatplans/impl"
)

func TestValidDecLimits(t *testing.T) {
	for _, d := range sampleDecs() {
		if !impl.ValidDec(d) {
			t.Errorf("ValidDec(%v) = false", d)
		}
	}
	for _, d := range invalidDecs() {
		if impl.ValidDec(d) {
			t.Errorf("ValidDec(%v) = true", d)
		}
	}
}

func TestPromise1EqualOnesAreValid(t *testing.T) {
	for _, d := range sampleDecs() {
		if n := impl.NormalDec(d); !impl.ValidDec(n) || exactOf(n).Cmp(exactOf(d)) != 0 {
			t.Errorf("NormalDec(%v) = %v", d, n)
		}
		if n := impl.NegateDec(d); !impl.ValidDec(n) {
			t.Errorf("NegateDec(%v) = %v", d, n)
		}
	}
}

func TestPromise2NormalForms(t *testing.T) {
	for _, c := range []struct{ d, want impl.Dec }{
		{dec(0, 0), dec(0, 0)},
		{dec(0, 12), dec(0, 0)},
		{dec(0, -12), dec(0, 0)},
		{dec(120, 0), dec(12, 1)},
		{dec(-120, -1), dec(-12, 0)},
		{dec(100000000, 4), dec(1, 12)},
		{dec(100000000, 5), dec(10, 12)},
		{dec(100000000, 12), dec(100000000, 12)},
		{dec(-10, 11), dec(-1, 12)},
		{dec(-10, 12), dec(-10, 12)},
		{dec(999999999, -12), dec(999999999, -12)},
	} {
		if got := impl.NormalDec(c.d); got != c.want {
			t.Errorf("NormalDec(%v) = %v, want %v", c.d, got, c.want)
		}
	}
	for _, d := range sampleDecs() {
		want, _ := normalOf(exactOf(d))
		got := impl.NormalDec(d)
		if got != want || impl.NormalDec(got) != got || impl.CompareDec(got, d) != 0 {
			t.Errorf("NormalDec(%v) = %v, want %v", d, got, want)
		}
		if got.Coef%10 == 0 && got.Exp != impl.MaxExp && got != dec(0, 0) {
			t.Errorf("NormalDec(%v) = %v has a zero at its end", d, got)
		}
	}
	for _, d := range invalidDecs() {
		if got := impl.NormalDec(d); got != dec(0, 0) {
			t.Errorf("NormalDec(%v) = %v", d, got)
		}
	}
}

func TestCompareDecExamples(t *testing.T) {
	for _, c := range []struct {
		a, b impl.Dec
		want int
	}{
		{dec(0, 5), dec(0, -12), 0},
		{dec(1, 12), dec(100000000, 4), 0},
		{dec(1, 12), dec(999999999, 3), 1},
		{dec(1, 12), dec(999999999, 2), 1},
		{dec(999999999, 12), dec(1, -12), 1},
		{dec(1, -12), dec(0, 12), 1},
		{dec(-1, -12), dec(0, 12), -1},
		{dec(-999999999, 12), dec(-1, -12), -1},
		{dec(-1, 0), dec(1, 0), -1},
		{dec(5, -1), dec(1, 0), -1},
		{dec(19, -1), dec(2, 0), -1},
		{dec(-19, -1), dec(-2, 0), 1},
	} {
		if got := impl.CompareDec(c.a, c.b); got != c.want {
			t.Errorf("CompareDec(%v, %v) = %d, want %d", c.a, c.b, got, c.want)
		}
	}
	for _, bad := range invalidDecs() {
		for _, good := range []impl.Dec{dec(5, 0), dec(-5, 0)} {
			if impl.CompareDec(bad, good) != 0 || impl.CompareDec(good, bad) != 0 {
				t.Errorf("CompareDec of %v and %v is not 0", bad, good)
			}
		}
	}
}

func TestPromise3ComparingGoesBothWays(t *testing.T) {
	for _, a := range fewDecs() {
		for _, b := range fewDecs() {
			got := impl.CompareDec(a, b)
			if got != exactOf(a).Cmp(exactOf(b)) {
				t.Fatalf("CompareDec(%v, %v) = %d", a, b, got)
			}
			if impl.CompareDec(b, a) != -got {
				t.Fatalf("CompareDec(%v, %v) is not turned round", b, a)
			}
			if (got == 0) != (impl.NormalDec(a) == impl.NormalDec(b)) {
				t.Fatalf("CompareDec(%v, %v) = %d, but not by their normal forms", a, b, got)
			}
			if impl.CompareDec(impl.NegateDec(a), impl.NegateDec(b)) != -got {
				t.Fatalf("CompareDec of NegateDec of %v and %v is not turned round", a, b)
			}
		}
	}
}

func TestPromise4SignsChangeTwice(t *testing.T) {
	for _, c := range []struct{ d, want impl.Dec }{
		{dec(0, 0), dec(0, 0)},
		{dec(0, -7), dec(0, -7)},
		{dec(1500, -2), dec(-1500, -2)},
		{dec(-999999999, 12), dec(999999999, 12)},
	} {
		if got := impl.NegateDec(c.d); got != c.want {
			t.Errorf("NegateDec(%v) = %v, want %v", c.d, got, c.want)
		}
	}
	for _, d := range sampleDecs() {
		n := impl.NegateDec(d)
		if n.Coef != d.Coef || n.Exp != d.Exp || n.Neg != (d.Coef > 0 && !d.Neg) {
			t.Errorf("NegateDec(%v) = %v", d, n)
		}
		if impl.NegateDec(n) != d {
			t.Errorf("NegateDec(%v) twice = %v", d, impl.NegateDec(n))
		}
		if sum, ok := impl.AddDec(d, n); !ok || sum != dec(0, 0) {
			t.Errorf("AddDec(%v, %v) = %v, %v", d, n, sum, ok)
		}
	}
	for _, d := range invalidDecs() {
		if got := impl.NegateDec(d); got != dec(0, 0) {
			t.Errorf("NegateDec(%v) = %v", d, got)
		}
	}
}

func TestAddDecExamples(t *testing.T) {
	for _, c := range []struct {
		a, b, want impl.Dec
		ok         bool
	}{
		{dec(0, 12), dec(0, -12), dec(0, 0), true},
		{dec(0, 0), dec(50, -12), dec(5, -11), true},
		{dec(999999998, 0), dec(1, 0), dec(999999999, 0), true},
		{dec(999999999, 0), dec(1, 0), dec(1, 9), true},
		{dec(999999999, 0), dec(2, 0), dec(0, 0), false},
		{dec(999999999, 0), dec(1, -1), dec(0, 0), false},
		{dec(999999999, 12), dec(1, 12), dec(0, 0), false},
		{dec(999999990, 12), dec(9, 12), dec(999999999, 12), true},
		{dec(999999999, 11), dec(1, 11), dec(100000000, 12), true},
		{dec(1, 8), dec(1, 0), dec(100000001, 0), true},
		{dec(1, 9), dec(1, 0), dec(0, 0), false},
		{dec(1, 9), dec(-1, 0), dec(999999999, 0), true},
		{dec(1, 9), dec(-999999999, 0), dec(1, 0), true},
		{dec(1, 10), dec(-1, 0), dec(0, 0), false},
		{dec(1, 10), dec(-999999999, 0), dec(0, 0), false},
		{dec(1, 10), dec(-999999990, 0), dec(900000001, 1), true},
		{dec(100, 10), dec(10, 12), dec(11, 12), true},
		{dec(1, 12), dec(1, -12), dec(0, 0), false},
		{dec(-15, -1), dec(-25, -1), dec(-4, 0), true},
	} {
		got, ok := impl.AddDec(c.a, c.b)
		if got != c.want || ok != c.ok {
			t.Errorf("AddDec(%v, %v) = %v, %v, want %v, %v", c.a, c.b, got, ok, c.want, c.ok)
		}
	}
	for _, bad := range invalidDecs() {
		for _, good := range []impl.Dec{dec(0, 0), dec(5, 0)} {
			if got, ok := impl.AddDec(bad, good); ok || got != dec(0, 0) {
				t.Errorf("AddDec(%v, %v) = %v, %v", bad, good, got, ok)
			}
			if got, ok := impl.AddDec(good, bad); ok || got != dec(0, 0) {
				t.Errorf("AddDec(%v, %v) = %v, %v", good, bad, got, ok)
			}
		}
	}
}

func TestPromise5SumsGoBothWaysAndBack(t *testing.T) {
	for _, a := range fewDecs() {
		for _, b := range fewDecs() {
			want, wantOK := normalOf(new(big.Int).Add(exactOf(a), exactOf(b)))
			sum, ok := impl.AddDec(a, b)
			if sum != want || ok != wantOK {
				t.Fatalf("AddDec(%v, %v) = %v, %v, want %v, %v", a, b, sum, ok, want, wantOK)
			}
			if other, otherOK := impl.AddDec(b, a); other != sum || otherOK != ok {
				t.Fatalf("AddDec(%v, %v) = %v, %v, but %v, %v the other way round", a, b, sum, ok, other, otherOK)
			}
			if !ok {
				continue
			}
			if impl.CompareDec(sum, a) != impl.CompareDec(b, dec(0, 0)) {
				t.Fatalf("AddDec(%v, %v) = %v is not as great as its parts tell", a, b, sum)
			}
			if back, backOK := impl.AddDec(sum, impl.NegateDec(a)); !backOK || back != impl.NormalDec(b) {
				t.Fatalf("%v less %v = %v, %v", sum, a, back, backOK)
			}
		}
	}
}

func TestShiftDecExamples(t *testing.T) {
	for _, c := range []struct {
		d    impl.Dec
		k    int
		want impl.Dec
		ok   bool
	}{
		{dec(0, 12), 12, dec(0, 0), true},
		{dec(0, -12), -12, dec(0, 0), true},
		{dec(150, -1), 0, dec(15, 0), true},
		{dec(-15, -1), 1, dec(-15, 0), true},
		{dec(1, 12), 8, dec(100000000, 12), true},
		{dec(1, 12), 9, dec(0, 0), false},
		{dec(1, 12), 12, dec(0, 0), false},
		{dec(999999999, 0), 12, dec(999999999, 12), true},
		{dec(999999999, 1), 12, dec(0, 0), false},
		{dec(99999999, 12), 1, dec(999999990, 12), true},
		{dec(1, -12), -1, dec(0, 0), false},
		{dec(100, -12), -2, dec(1, -12), true},
		{dec(100, -12), -3, dec(0, 0), false},
		{dec(1, 0), -12, dec(1, -12), true},
		{dec(1, -12), 12, dec(1, 0), true},
	} {
		got, ok := impl.ShiftDec(c.d, c.k)
		if got != c.want || ok != c.ok {
			t.Errorf("ShiftDec(%v, %d) = %v, %v, want %v, %v", c.d, c.k, got, ok, c.want, c.ok)
		}
	}
	for _, k := range outOfRange(-impl.MaxExp, impl.MaxExp) {
		for _, d := range []impl.Dec{dec(0, 0), dec(1, 0), dec(1, 12), dec(100000000, -12)} {
			if got, ok := impl.ShiftDec(d, k); ok || got != dec(0, 0) {
				t.Errorf("ShiftDec(%v, %d) = %v, %v", d, k, got, ok)
			}
		}
	}
	for _, d := range invalidDecs() {
		for _, k := range []int{-1, 0, 1} {
			if got, ok := impl.ShiftDec(d, k); ok || got != dec(0, 0) {
				t.Errorf("ShiftDec(%v, %d) = %v, %v", d, k, got, ok)
			}
		}
	}
}

func TestPromise6ShiftedBackIsAsBefore(t *testing.T) {
	for _, d := range sampleDecs() {
		for k := -impl.MaxExp; k <= impl.MaxExp; k++ {
			moved := d
			moved.Exp += k
			want, wantOK := normalOf(exactOf(moved))
			got, ok := impl.ShiftDec(d, k)
			if got != want || ok != wantOK {
				t.Fatalf("ShiftDec(%v, %d) = %v, %v, want %v, %v", d, k, got, ok, want, wantOK)
			}
			if !ok {
				continue
			}
			if got.Neg != d.Neg {
				t.Fatalf("ShiftDec(%v, %d) = %v has another sign", d, k, got)
			}
			if back, backOK := impl.ShiftDec(got, -k); !backOK || back != impl.NormalDec(d) {
				t.Fatalf("ShiftDec(%v, %d) = %v, %v", got, -k, back, backOK)
			}
		}
	}
}
