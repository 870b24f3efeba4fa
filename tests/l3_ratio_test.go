package tests

import (
	"math/big"
	"testing"

	"loop.example/bonddesk/impl"
)

// badRatios are ratios that are not valid.
func badRatios() []impl.Ratio {
	out := []impl.Ratio{
		{}, {Num: 1}, {Num: -1}, {Num: 0, Den: 2}, {Num: 2, Den: 4}, {Num: -3, Den: 3}, {Num: 1, Den: -2}, {Num: -1, Den: -2}, {Num: 0, Den: -1},
		{Num: impl.MaxTerm + 1, Den: 1}, {Num: -impl.MaxTerm - 1, Den: 1}, {Num: 1, Den: impl.MaxTerm + 1},
		{Num: impl.MaxTerm, Den: impl.MaxTerm}, {Num: 0, Den: impl.MaxTerm},
	}
	for _, x := range extremes {
		out = append(out, impl.Ratio{Num: x, Den: 1}, impl.Ratio{Num: 1, Den: x}, impl.Ratio{Num: x, Den: x})
	}
	return out
}

// goodRatios are valid ratios: small ones, and those with the greatest terms.
func goodRatios() []impl.Ratio {
	out := []impl.Ratio{
		{Num: impl.MaxTerm, Den: 1}, {Num: -impl.MaxTerm, Den: 1}, {Num: 1, Den: impl.MaxTerm}, {Num: -1, Den: impl.MaxTerm},
		{Num: impl.MaxTerm, Den: impl.MaxTerm - 1}, {Num: impl.MaxTerm - 1, Den: impl.MaxTerm}, {Num: 1 - impl.MaxTerm, Den: impl.MaxTerm},
		{Num: 1000000, Den: 1}, {Num: 1000001, Den: 1}, {Num: -1000001, Den: 1}, {Num: 1, Den: 1414}, {Num: 1, Den: 1415}, {Num: 1414, Den: 1415},
		{Num: 1, Den: 1000000}, {Num: 3, Den: 1000000}, {Num: 731, Den: 133590}, {Num: 365, Den: 366}, {Num: 364, Den: 365}, {Num: 1, Den: 360},
	}
	for den := 1; den <= 12; den++ {
		for num := -13; num <= 13; num++ {
			x := big.NewRat(int64(num), int64(den))
			if x.Denom().Int64() == int64(den) {
				out = append(out, impl.Ratio{Num: num, Den: den})
			}
		}
	}
	return out
}

func TestRatioLimits(t *testing.T) {
	if impl.MaxTerm != 2000000 || impl.MaxAmount != 1000000000 {
		t.Errorf("limits = %d, %d", impl.MaxTerm, impl.MaxAmount)
	}
}

func TestP14RatiosAreInLowestTerms(t *testing.T) {
	terms := []int{1, 2, 3, 4, 6, 7, 8, 12, 360, 365, 366, 133590, 999999, 1000000, 1000001, impl.MaxTerm - 1, impl.MaxTerm}
	nums := []int{0}
	for _, x := range terms {
		nums = append(nums, x, -x)
	}
	for _, num := range nums {
		for _, den := range terms {
			got, ok := impl.MakeRatio(num, den)
			want, _ := ratioOf(big.NewRat(int64(num), int64(den)))
			if !ok || got != want || got.Num*den != num*got.Den {
				t.Errorf("MakeRatio(%d, %d) = %v, %v, want %v", num, den, got, ok, want)
			}
			twice, ok := impl.MakeRatio(2*num, 2*den)
			if inside := max(num, -num) <= impl.MaxTerm/2 && den <= impl.MaxTerm/2; ok != inside || ok && twice != got {
				t.Errorf("MakeRatio(%d, %d) = %v, %v", 2*num, 2*den, twice, ok)
			}
			whole, _ := impl.MakeRatio(den, 1)
			if product, ok := impl.MulRatio(got, whole); !ok || product != (impl.Ratio{Num: num, Den: 1}) {
				t.Errorf("MulRatio(%v, %d) = %v, %v", got, den, product, ok)
			}
		}
	}
}

func TestMakeRatioOfInvalidArguments(t *testing.T) {
	for _, den := range append([]int{0, -1, -2, impl.MaxTerm + 1}, extremes...) {
		for _, num := range append([]int{0, 1, -1, impl.MaxTerm}, extremes...) {
			if r, ok := impl.MakeRatio(num, den); ok || r != (impl.Ratio{}) {
				t.Errorf("MakeRatio(%d, %d) = %v, %v", num, den, r, ok)
			}
		}
	}
	for _, num := range append([]int{impl.MaxTerm + 1, -impl.MaxTerm - 1}, extremes...) {
		for _, den := range []int{1, 2, impl.MaxTerm} {
			if r, ok := impl.MakeRatio(num, den); ok || r != (impl.Ratio{}) {
				t.Errorf("MakeRatio(%d, %d) = %v, %v", num, den, r, ok)
			}
		}
	}
}

func TestP15SumsAreSums(t *testing.T) {
	for _, a := range goodRatios() {
		for _, b := range goodRatios() {
			want, valid := ratioOf(new(big.Rat).Add(exact(a), exact(b)))
			got, ok := impl.AddRatio(a, b)
			if got != want || ok != valid {
				t.Fatalf("AddRatio(%v, %v) = %v, %v, want %v, %v", a, b, got, ok, want, valid)
			}
			if other, otherOk := impl.AddRatio(b, a); other != got || otherOk != ok {
				t.Fatalf("AddRatio(%v, %v) = %v, %v, other order %v, %v", a, b, got, ok, other, otherOk)
			}
			if back, backOk := impl.AddRatio(got, impl.Ratio{Num: -b.Num, Den: b.Den}); ok && (!backOk || back != a) {
				t.Fatalf("AddRatio(%v, %v) = %v, and back %v, %v", a, b, got, back, backOk)
			}
		}
	}
}

func TestP16ProductsAreProducts(t *testing.T) {
	one := impl.Ratio{Num: 1, Den: 1}
	for _, a := range goodRatios() {
		if got, ok := impl.MulRatio(a, one); !ok || got != a {
			t.Errorf("MulRatio(%v, 1) = %v, %v", a, got, ok)
		}
		for _, b := range goodRatios() {
			want, valid := ratioOf(new(big.Rat).Mul(exact(a), exact(b)))
			got, ok := impl.MulRatio(a, b)
			if got != want || ok != valid {
				t.Fatalf("MulRatio(%v, %v) = %v, %v, want %v, %v", a, b, got, ok, want, valid)
			}
			if other, otherOk := impl.MulRatio(b, a); other != got || otherOk != ok {
				t.Fatalf("MulRatio(%v, %v) = %v, %v, other order %v, %v", a, b, got, ok, other, otherOk)
			}
		}
	}
}

func TestRatiosAtTheirLimits(t *testing.T) {
	most, least := impl.Ratio{Num: impl.MaxTerm, Den: 1}, impl.Ratio{Num: 1, Den: impl.MaxTerm}
	one, zero := impl.Ratio{Num: 1, Den: 1}, impl.Ratio{Num: 0, Den: 1}
	if r, ok := impl.AddRatio(most, one); ok || r != (impl.Ratio{}) {
		t.Errorf("AddRatio one more than MaxTerm = %v, %v", r, ok)
	}
	if r, ok := impl.AddRatio(most, zero); !ok || r != most {
		t.Errorf("AddRatio MaxTerm and 0 = %v, %v", r, ok)
	}
	if r, ok := impl.AddRatio(impl.Ratio{Num: 1, Den: 1000}, impl.Ratio{Num: 1, Den: 2001}); ok || r != (impl.Ratio{}) {
		t.Errorf("AddRatio with the denominator 2001000 = %v, %v", r, ok)
	}
	if r, ok := impl.MulRatio(least, impl.Ratio{Num: 1, Den: 2}); ok || r != (impl.Ratio{}) {
		t.Errorf("MulRatio with a denominator of 4000000 = %v, %v", r, ok)
	}
	if r, ok := impl.MulRatio(most, least); !ok || r != one {
		t.Errorf("MulRatio(MaxTerm, 1/MaxTerm) = %v, %v", r, ok)
	}
	if r, ok := impl.MulRatio(most, impl.Ratio{Num: -1, Den: 1}); !ok || r != (impl.Ratio{Num: -impl.MaxTerm, Den: 1}) {
		t.Errorf("MulRatio(MaxTerm, -1) = %v, %v", r, ok)
	}
}

func TestFunctionsOfInvalidRatios(t *testing.T) {
	for _, bad := range badRatios() {
		for _, other := range append(badRatios(), impl.Ratio{Num: 1, Den: 1}, impl.Ratio{Num: 1, Den: 2}, impl.Ratio{Num: 0, Den: 1}) {
			for _, x := range [][2]impl.Ratio{{bad, other}, {other, bad}} {
				if r, ok := impl.AddRatio(x[0], x[1]); ok || r != (impl.Ratio{}) {
					t.Errorf("AddRatio(%v) = %v, %v", x, r, ok)
				}
				if r, ok := impl.MulRatio(x[0], x[1]); ok || r != (impl.Ratio{}) {
					t.Errorf("MulRatio(%v) = %v, %v", x, r, ok)
				}
				if got := impl.CompareRatio(x[0], x[1]); got != 2 {
					t.Errorf("CompareRatio(%v) = %d", x, got)
				}
			}
		}
		for _, amount := range []int{0, 1, -1, impl.MaxAmount} {
			if n, ok := impl.ShareOf(amount, bad); ok || n != 0 {
				t.Errorf("ShareOf(%d, %v) = %d, %v", amount, bad, n, ok)
			}
		}
	}
}

func TestP17RatiosAreOrdered(t *testing.T) {
	for _, a := range goodRatios() {
		for _, b := range goodRatios() {
			got := impl.CompareRatio(a, b)
			if got != exact(a).Cmp(exact(b)) || got != -impl.CompareRatio(b, a) || (got == 0) != (a == b) {
				t.Fatalf("CompareRatio(%v, %v) = %d", a, b, got)
			}
		}
	}
}

// amounts are amounts at and around their limits, even and odd ones.
var amounts = []int{-impl.MaxAmount, 1 - impl.MaxAmount, -1001, -100, -7, -5, -3, -2, -1, 0, 1, 2, 3, 5, 7, 100, 1001, impl.MaxAmount - 1, impl.MaxAmount}

func TestP18SharesAreParts(t *testing.T) {
	for _, amount := range amounts {
		if n, ok := impl.ShareOf(amount, impl.Ratio{Num: 1, Den: 1}); !ok || n != amount {
			t.Errorf("ShareOf(%d, 1) = %d, %v", amount, n, ok)
		}
		if n, ok := impl.ShareOf(amount, impl.Ratio{Num: 0, Den: 1}); !ok || n != 0 {
			t.Errorf("ShareOf(%d, 0) = %d, %v", amount, n, ok)
		}
		half, ok := impl.ShareOf(amount, impl.Ratio{Num: 1, Den: 2})
		if off := amount - 2*half; !ok || off > 0 || off < -1 {
			t.Errorf("ShareOf(%d, 1/2) = %d, %v", amount, half, ok)
		}
	}
}

func TestSharesAreRounded(t *testing.T) {
	for _, r := range goodRatios() {
		for _, amount := range amounts {
			want, valid := 0, r.Num >= 0 && r.Num <= r.Den
			if valid {
				want = rounded(new(big.Rat).Mul(exact(r), big.NewRat(int64(amount), 1)))
			}
			if n, ok := impl.ShareOf(amount, r); n != want || ok != valid {
				t.Errorf("ShareOf(%d, %v) = %d, %v, want %d, %v", amount, r, n, ok, want, valid)
			}
		}
	}
}

func TestShareOfInvalidArguments(t *testing.T) {
	for _, amount := range append([]int{impl.MaxAmount + 1, -impl.MaxAmount - 1}, extremes...) {
		for _, r := range []impl.Ratio{{Num: 0, Den: 1}, {Num: 1, Den: 2}, {Num: 1, Den: 1}} {
			if n, ok := impl.ShareOf(amount, r); ok || n != 0 {
				t.Errorf("ShareOf(%d, %v) = %d, %v", amount, r, n, ok)
			}
		}
	}
	for _, r := range []impl.Ratio{{Num: -1, Den: impl.MaxTerm}, {Num: -1, Den: 1}, {Num: 2, Den: 1}, {Num: impl.MaxTerm, Den: impl.MaxTerm - 1}} {
		for _, amount := range []int{0, 5, -5} {
			if n, ok := impl.ShareOf(amount, r); ok || n != 0 {
				t.Errorf("ShareOf(%d, %v) = %d, %v", amount, r, n, ok)
			}
		}
	}
}

func TestP131SumsAreMultipliedPartByPart(t *testing.T) {
	all := goodRatios()
	for i, a := range all {
		for j, b := range all {
			c := all[(7*i+3*j)%len(all)]
			sum, ok1 := impl.AddRatio(a, b)
			whole, ok2 := impl.MulRatio(sum, c)
			left, ok3 := impl.MulRatio(a, c)
			right, ok4 := impl.MulRatio(b, c)
			parts, ok5 := impl.AddRatio(left, right)
			if ok1 && ok2 && ok3 && ok4 && (!ok5 || parts != whole) {
				t.Fatalf("(%v + %v) * %v = %v, part by part %v, %v", a, b, c, whole, parts, ok5)
			}
		}
	}
}

func TestP132AddingKeepsTheOrder(t *testing.T) {
	one := impl.Ratio{Num: 1, Den: 1}
	for _, a := range goodRatios() {
		for _, b := range goodRatios() {
			x, ok1 := impl.AddRatio(a, one)
			y, ok2 := impl.AddRatio(b, one)
			if ok1 && ok2 && impl.CompareRatio(x, y) != impl.CompareRatio(a, b) {
				t.Fatalf("CompareRatio(%v, %v) = %d, plus 1 it is %d", a, b, impl.CompareRatio(a, b), impl.CompareRatio(x, y))
			}
		}
	}
}
