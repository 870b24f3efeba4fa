package tests

import (
	"math"
	"math/big"
	"slices"
	"testing"

	"loop.example/bonddesk/impl"
)

// rangeBounds are bounds of all signs, in ascending order: small ones, some near 1, those whose square is just valid or just not, and the greatest ones.
var rangeBounds = []int{-impl.MaxMicro, 1 - impl.MaxMicro, -44721360, -44721359, -1414214, -1000001, -1000000, -999999, -3, -1, 0, 1, 2, 7, 333333, 999999, 1000000, 1000001, 1100000, 3000000, 44721359, 44721360, impl.MaxMicro - 1, impl.MaxMicro}

// goodRanges returns valid ranges, single numbers and wide ones.
func goodRanges() []impl.Range {
	var out []impl.Range
	for i, low := range rangeBounds {
		for _, high := range rangeBounds[i:] {
			out = append(out, impl.Range{Low: low, High: high})
		}
	}
	return out
}

// fewRanges returns some of the valid ranges.
func fewRanges() []impl.Range {
	var out []impl.Range
	for i, r := range goodRanges() {
		if i%5 == 0 {
			out = append(out, r)
		}
	}
	return out
}

// badRanges returns ranges that are not valid.
func badRanges() []impl.Range {
	out := []impl.Range{
		{Low: 1}, {Low: 2, High: 1}, {High: -1}, {Low: 1000000, High: 999999}, {Low: impl.MaxMicro, High: -impl.MaxMicro}, {Low: impl.MaxMicro, High: impl.MaxMicro - 1},
		{High: impl.MaxMicro + 1}, {Low: 1, High: impl.MaxMicro + 1}, {Low: -impl.MaxMicro - 1}, {Low: -impl.MaxMicro - 1, High: 1000000},
		{Low: impl.MaxMicro + 1, High: impl.MaxMicro + 1}, {Low: -impl.MaxMicro - 1, High: -impl.MaxMicro - 1}, {Low: -impl.MaxMicro - 1, High: impl.MaxMicro + 1},
		{Low: math.MinInt, High: math.MaxInt}, {Low: math.MaxInt, High: math.MinInt},
	}
	for _, x := range extremes {
		out = append(out, impl.Range{Low: x}, impl.Range{High: x}, impl.Range{Low: x, High: x}, impl.Range{Low: 1, High: x}, impl.Range{Low: x, High: 1})
	}
	return out
}

// plainValid reports whether a range is valid.
func plainValid(r impl.Range) bool {
	return r.Low <= r.High && r.Low >= -2000000000 && r.High <= 2000000000
}

// plainRange returns the smallest range that has two numbers in millionths, if it is valid.
func plainRange(low *big.Rat, high *big.Rat) (impl.Range, bool) {
	limit := big.NewRat(2000000000, 1)
	if low.Cmp(new(big.Rat).Neg(limit)) < 0 || high.Cmp(limit) > 0 {
		return impl.Range{}, false
	}
	return impl.Range{Low: roundedDown(low), High: roundedUp(high)}, true
}

// plainMul is MulRange of valid ranges.
func plainMul(a impl.Range, b impl.Range) (impl.Range, bool) {
	var products []*big.Rat
	for _, x := range []int{a.Low, a.High} {
		for _, y := range []int{b.Low, b.High} {
			products = append(products, new(big.Rat).Mul(big.NewRat(int64(x), 1000000), big.NewRat(int64(y), 1)))
		}
	}
	return plainRange(slices.MinFunc(products, (*big.Rat).Cmp), slices.MaxFunc(products, (*big.Rat).Cmp))
}

// plainDiv is DivRange of valid ranges that it takes.
func plainDiv(a impl.Range, b impl.Range) (impl.Range, bool) {
	micro := big.NewRat(1000000, 1)
	low, high := big.NewRat(int64(a.Low), int64(b.High)), big.NewRat(int64(a.High), int64(b.Low))
	return plainRange(low.Mul(low, micro), high.Mul(high, micro))
}

// within reports whether a range lies in another one.
func within(a impl.Range, b impl.Range) bool {
	return b.Low <= a.Low && a.High <= b.High
}

// meet reports whether two ranges have a number in common.
func meet(a impl.Range, b impl.Range) bool {
	return max(a.Low, b.Low) <= min(a.High, b.High)
}

// eachPair calls a function with all pairs of valid ranges.
func eachPair(f func(a impl.Range, b impl.Range)) {
	list := goodRanges()
	for _, a := range list {
		for _, b := range list {
			f(a, b)
		}
	}
}

func TestRangeLimits(t *testing.T) {
	if impl.Micro != 1000000 || impl.MaxMicro != 2000000000 {
		t.Errorf("limits = %d, %d", impl.Micro, impl.MaxMicro)
	}
}

func TestValidRanges(t *testing.T) {
	for _, r := range append(goodRanges(), badRanges()...) {
		if got := impl.ValidRange(r); got != plainValid(r) {
			t.Errorf("ValidRange(%v) = %v", r, got)
		}
	}
	for _, r := range []impl.Range{{}, {Low: 5, High: 5}, {Low: -5, High: -5}, {Low: -2000000000, High: 2000000000}, {Low: 2000000000, High: 2000000000}, {Low: -2000000000, High: -2000000000}} {
		if !impl.ValidRange(r) {
			t.Errorf("%v is not valid", r)
		}
	}
}

func TestMulRangeIsExact(t *testing.T) {
	eachPair(func(a impl.Range, b impl.Range) {
		got, ok := impl.MulRange(a, b)
		if want, valid := plainMul(a, b); got != want || ok != valid {
			t.Fatalf("MulRange(%v, %v) = %v, %v, want %v, %v", a, b, got, ok, want, valid)
		}
	})
}

func TestDivRangeIsExact(t *testing.T) {
	eachPair(func(a impl.Range, b impl.Range) {
		got, ok := impl.DivRange(a, b)
		want, valid := impl.Range{}, false
		if a.Low >= 0 && b.Low > 0 {
			want, valid = plainDiv(a, b)
		}
		if got != want || ok != valid {
			t.Fatalf("DivRange(%v, %v) = %v, %v, want %v, %v", a, b, got, ok, want, valid)
		}
	})
}

func TestPowRangeIsExact(t *testing.T) {
	for _, a := range append(goodRanges(), impl.Range{Low: 999998, High: 1000002}, impl.Range{Low: 1200000, High: 1209000}, impl.Range{Low: 1209178, High: 1209179}) {
		want, valid := impl.Range{Low: 1000000, High: 1000000}, a.Low >= 0
		for n := 0; n <= 40; n++ {
			if n > 0 && valid {
				want, valid = plainMul(want, a)
			}
			if !valid {
				want = impl.Range{}
			}
			if got, ok := impl.PowRange(a, n); got != want || ok != valid {
				t.Fatalf("PowRange(%v, %d) = %v, %v, want %v, %v", a, n, got, ok, want, valid)
			}
		}
	}
}

func TestRangesByHand(t *testing.T) {
	type operation = func(a impl.Range, b impl.Range) (impl.Range, bool)
	pow := func(a impl.Range, n impl.Range) (impl.Range, bool) { return impl.PowRange(a, n.Low) }
	for _, x := range []struct {
		name    string
		compute operation
		a, b    impl.Range
		want    impl.Range
		ok      bool
	}{
		{"a sum", impl.AddRange, impl.Range{Low: -5, High: 7}, impl.Range{Low: 1, High: 2}, impl.Range{Low: -4, High: 9}, true},
		{"the greatest sum", impl.AddRange, impl.Range{Low: 0, High: 1999999999}, impl.Range{Low: 0, High: 1}, impl.Range{Low: 0, High: 2000000000}, true},
		{"a sum just above", impl.AddRange, impl.Range{Low: 0, High: 2000000000}, impl.Range{Low: 0, High: 1}, impl.Range{}, false},
		{"the least sum", impl.AddRange, impl.Range{Low: -1999999999}, impl.Range{Low: -1}, impl.Range{Low: -2000000000}, true},
		{"a sum just below", impl.AddRange, impl.Range{Low: -2000000000}, impl.Range{Low: -1}, impl.Range{}, false},
		{"a product rounded down and up", impl.MulRange, impl.Range{Low: 1, High: 1}, impl.Range{Low: 1, High: 1}, impl.Range{Low: 0, High: 1}, true},
		{"a negative product rounded down and up", impl.MulRange, impl.Range{Low: -1, High: -1}, impl.Range{Low: 1, High: 1}, impl.Range{Low: -1, High: 0}, true},
		{"a product of negative numbers", impl.MulRange, impl.Range{Low: -1, High: -1}, impl.Range{Low: -1, High: -1}, impl.Range{Low: 0, High: 1}, true},
		{"negative bounds turn around", impl.MulRange, impl.Range{Low: -3000000, High: -2000000}, impl.Range{Low: -5000000, High: -4000000}, impl.Range{Low: 8000000, High: 15000000}, true},
		{"a range around 0 times a negative one", impl.MulRange, impl.Range{Low: -3000000, High: 2000000}, impl.Range{Low: -5000000, High: -4000000}, impl.Range{Low: -10000000, High: 15000000}, true},
		{"both around 0, the low one by the second bound", impl.MulRange, impl.Range{Low: -3000000, High: 2000000}, impl.Range{Low: -1000000, High: 7000000}, impl.Range{Low: -21000000, High: 14000000}, true},
		{"both around 0, the high one by the low bounds", impl.MulRange, impl.Range{Low: -3000000, High: 1000000}, impl.Range{Low: -2000000, High: 1000000}, impl.Range{Low: -3000000, High: 6000000}, true},
		{"a part of a negative bound", impl.MulRange, impl.Range{Low: -1500001, High: 1500001}, impl.Range{Low: 500000, High: 500000}, impl.Range{Low: -750001, High: 750001}, true},
		{"the greatest product", impl.MulRange, impl.Range{Low: 1000000, High: 2000000}, impl.Range{Low: 0, High: 1000000000}, impl.Range{Low: 0, High: 2000000000}, true},
		{"a product just above", impl.MulRange, impl.Range{Low: 1000000, High: 2000001}, impl.Range{Low: 0, High: 1000000000}, impl.Range{}, false},
		{"the greatest square", impl.MulRange, impl.Range{Low: 44721359, High: 44721359}, impl.Range{Low: 44721359, High: 44721359}, impl.Range{Low: 1999999950, High: 1999999951}, true},
		{"a square just above", impl.MulRange, impl.Range{Low: 44721360, High: 44721360}, impl.Range{Low: 44721360, High: 44721360}, impl.Range{}, false},
		{"a product just below", impl.MulRange, impl.Range{Low: -2000000000, High: 0}, impl.Range{Low: 0, High: 1000001}, impl.Range{}, false},
		{"a quotient rounded down and up", impl.DivRange, impl.Range{Low: 1000000, High: 2000000}, impl.Range{Low: 3000000, High: 7000000}, impl.Range{Low: 142857, High: 666667}, true},
		{"a quotient of 0", impl.DivRange, impl.Range{}, impl.Range{Low: 1, High: 2000000000}, impl.Range{}, true},
		{"a small quotient", impl.DivRange, impl.Range{Low: 1, High: 1}, impl.Range{Low: 2000000000, High: 2000000000}, impl.Range{Low: 0, High: 1}, true},
		{"the greatest quotient", impl.DivRange, impl.Range{Low: 2000, High: 2000}, impl.Range{Low: 1, High: 1}, impl.Range{Low: 2000000000, High: 2000000000}, true},
		{"a quotient just above", impl.DivRange, impl.Range{Low: 2000, High: 2001}, impl.Range{Low: 1, High: 1}, impl.Range{}, false},
		{"a negative dividend", impl.DivRange, impl.Range{Low: -1, High: 1}, impl.Range{Low: 1000000, High: 1000000}, impl.Range{}, false},
		{"a divisor from 0 on", impl.DivRange, impl.Range{Low: 1, High: 1}, impl.Range{Low: 0, High: 1}, impl.Range{}, false},
		{"a negative divisor", impl.DivRange, impl.Range{Low: 1, High: 1}, impl.Range{Low: -2, High: -1}, impl.Range{}, false},
		{"a power that is rounded each time", pow, impl.Range{Low: 1000001, High: 1000001}, impl.Range{Low: 3}, impl.Range{Low: 1000003, High: 1000005}, true},
		{"the power 0", pow, impl.Range{Low: 0, High: 2000000000}, impl.Range{Low: 0}, impl.Range{Low: 1000000, High: 1000000}, true},
		{"a power of 0", pow, impl.Range{}, impl.Range{Low: 40}, impl.Range{}, true},
		{"powers of 2 up to the limit", pow, impl.Range{Low: 2000000, High: 2000000}, impl.Range{Low: 10}, impl.Range{Low: 1024000000, High: 1024000000}, true},
		{"powers of 2 above the limit", pow, impl.Range{Low: 2000000, High: 2000000}, impl.Range{Low: 11}, impl.Range{}, false},
		{"40 powers of 10", pow, impl.Range{Low: 10000000, High: 10000000}, impl.Range{Low: 40}, impl.Range{}, false},
		{"powers of a negative bound", pow, impl.Range{Low: -1, High: 1}, impl.Range{Low: 2}, impl.Range{}, false},
		{"the power 0 of a negative bound", pow, impl.Range{Low: -1, High: 1}, impl.Range{}, impl.Range{}, false},
	} {
		if got, ok := x.compute(x.a, x.b); got != x.want || ok != x.ok {
			t.Errorf("%s: of %v and %v %v, %v, want %v, %v", x.name, x.a, x.b, got, ok, x.want, x.ok)
		}
	}
}

func TestOperationsOfInvalidRanges(t *testing.T) {
	check := func(name string, a impl.Range, b impl.Range, compute func(a impl.Range, b impl.Range) (impl.Range, bool)) {
		if got, ok := compute(a, b); ok || got != (impl.Range{}) {
			t.Errorf("%s(%v, %v) = %v, %v", name, a, b, got, ok)
		}
	}
	for _, bad := range badRanges() {
		for _, r := range append(badRanges(), impl.Range{}, impl.Range{Low: 1, High: 1}, impl.Range{Low: 1000000, High: 1000000}, impl.Range{Low: -5, High: 7}) {
			check("AddRange", bad, r, impl.AddRange)
			check("AddRange", r, bad, impl.AddRange)
			check("MulRange", bad, r, impl.MulRange)
			check("MulRange", r, bad, impl.MulRange)
			check("DivRange", bad, r, impl.DivRange)
			check("DivRange", r, bad, impl.DivRange)
		}
		for _, n := range append([]int{-1, 0, 1, 2, 40, 41}, extremes...) {
			if got, ok := impl.PowRange(bad, n); ok || got != (impl.Range{}) {
				t.Errorf("PowRange(%v, %d) = %v, %v", bad, n, got, ok)
			}
			if impl.InRange(bad, n) {
				t.Errorf("InRange(%v, %d)", bad, n)
			}
		}
		for _, n := range []int{bad.Low, bad.High} {
			if impl.InRange(bad, n) {
				t.Errorf("InRange(%v, %d)", bad, n)
			}
		}
	}
}

func TestPowRangeOfInvalidExponents(t *testing.T) {
	for _, a := range []impl.Range{{}, {Low: 1, High: 1}, {Low: 1000000, High: 1000000}, {Low: 900000, High: 1000001}} {
		for _, n := range append([]int{-1, 41, -40, 1000}, extremes...) {
			if got, ok := impl.PowRange(a, n); ok || got != (impl.Range{}) {
				t.Errorf("PowRange(%v, %d) = %v, %v", a, n, got, ok)
			}
		}
		if _, ok := impl.PowRange(a, 40); !ok {
			t.Errorf("PowRange(%v, 40) fails", a)
		}
	}
}

func TestP38RangesHaveNumbers(t *testing.T) {
	for _, r := range append(goodRanges(), badRanges()...) {
		if both := impl.InRange(r, r.Low) && impl.InRange(r, r.High); both != impl.ValidRange(r) || both != plainValid(r) {
			t.Errorf("both bounds of %v in it: %v, valid: %v", r, both, impl.ValidRange(r))
		}
	}
}

func TestP39SumsLieInSums(t *testing.T) {
	eachPair(func(a impl.Range, b impl.Range) {
		want := impl.Range{Low: a.Low + b.Low, High: a.High + b.High}
		valid := plainValid(want)
		if !valid {
			want = impl.Range{}
		}
		for _, x := range [][2]impl.Range{{a, b}, {b, a}} {
			if got, ok := impl.AddRange(x[0], x[1]); got != want || ok != valid {
				t.Fatalf("AddRange(%v, %v) = %v, %v, want %v, %v", x[0], x[1], got, ok, want, valid)
			}
		}
	})
}

func TestP40ProductsLieInProducts(t *testing.T) {
	eachPair(func(a impl.Range, b impl.Range) {
		r, ok := impl.MulRange(a, b)
		if other, fine := impl.MulRange(b, a); other != r || fine != ok {
			t.Fatalf("MulRange(%v, %v) = %v, %v, the other way around %v, %v", a, b, r, ok, other, fine)
		}
		if !ok {
			return
		}
		var low, high bool
		for _, x := range []int{a.Low, (a.Low + a.High) / 2, a.High} {
			for _, y := range []int{b.Low, (b.Low + b.High) / 2, b.High} {
				if x*y < r.Low*1000000 || x*y > r.High*1000000 {
					t.Fatalf("MulRange(%v, %v) = %v has not %d times %d", a, b, r, x, y)
				}
				low = low || x*y < (r.Low+1)*1000000
				high = high || x*y > (r.High-1)*1000000
			}
		}
		if !low || !high {
			t.Fatalf("MulRange(%v, %v) = %v is too large", a, b, r)
		}
	})
}

func TestP41SmallerRangesHaveSmallerProducts(t *testing.T) {
	eachPair(func(a impl.Range, b impl.Range) {
		r, ok := impl.MulRange(a, b)
		if !ok {
			return
		}
		for _, x := range []int{a.Low, (a.Low + a.High) / 2, a.High} {
			if part, fine := impl.MulRange(impl.Range{Low: x, High: x}, b); !fine || !within(part, r) {
				t.Fatalf("MulRange(%d alone, %v) = %v, %v, not in %v", x, b, part, fine, r)
			}
		}
	})
}

func TestP42QuotientsLieInQuotients(t *testing.T) {
	count := 0
	eachPair(func(a impl.Range, b impl.Range) {
		q, ok := impl.DivRange(a, b)
		if !ok {
			return
		}
		count++
		if r, fine := impl.MulRange(q, b); fine && !within(a, r) {
			t.Fatalf("MulRange(%v, %v) = %v has not %v", q, b, r, a)
		}
		for _, x := range []int{a.Low, a.High} {
			for _, y := range []int{b.Low, b.High} {
				if x*1000000 < q.Low*y || x*1000000 > q.High*y {
					t.Fatalf("DivRange(%v, %v) = %v has not %d divided by %d", a, b, q, x, y)
				}
			}
		}
	})
	if count < 1000 {
		t.Errorf("only %d quotients", count)
	}
}

func TestP43RangesAreBetweenTheirBounds(t *testing.T) {
	for _, r := range goodRanges() {
		for _, n := range append([]int{r.Low - 1, r.Low, r.Low + 1, (r.Low + r.High) / 2, r.High - 1, r.High, r.High + 1, 0}, extremes...) {
			if got := impl.InRange(r, n); got != (n >= r.Low && n <= r.High) {
				t.Fatalf("InRange(%v, %d) = %v", r, n, got)
			}
		}
	}
}

func TestP44PowersAreProducts(t *testing.T) {
	for _, a := range goodRanges() {
		if a.Low < 0 {
			continue
		}
		before, ok := impl.PowRange(a, 0)
		if !ok || before != (impl.Range{Low: 1000000, High: 1000000}) {
			t.Fatalf("PowRange(%v, 0) = %v, %v", a, before, ok)
		}
		for n := 1; n <= 40 && ok; n++ {
			want, valid := impl.MulRange(before, a)
			if before, ok = impl.PowRange(a, n); before != want || ok != valid {
				t.Fatalf("PowRange(%v, %d) = %v, %v, want %v, %v", a, n, before, ok, want, valid)
			}
		}
	}
}

func TestP138SumsCanBeRegrouped(t *testing.T) {
	list, count := fewRanges(), 0
	for _, a := range list {
		for _, b := range list {
			for _, c := range list {
				ab, ok1 := impl.AddRange(a, b)
				bc, ok2 := impl.AddRange(b, c)
				left, ok3 := impl.AddRange(ab, c)
				right, ok4 := impl.AddRange(a, bc)
				if !ok1 || !ok2 || !ok3 || !ok4 {
					continue
				}
				count++
				if left != right || left != (impl.Range{Low: a.Low + b.Low + c.Low, High: a.High + b.High + c.High}) {
					t.Fatalf("AddRange %v, %v and %v = %v and %v", a, b, c, left, right)
				}
			}
		}
	}
	if count < 1000 {
		t.Errorf("only %d sums", count)
	}
}

func TestP139QuotientsOfEqualNumbersAreOne(t *testing.T) {
	for _, a := range goodRanges() {
		r, ok := impl.DivRange(a, a)
		if ok && !impl.InRange(r, 1000000) {
			t.Errorf("DivRange(%v, %v) = %v", a, a, r)
		}
		if a.Low == a.High && a.Low > 0 && (!ok || r != impl.Range{Low: 1000000, High: 1000000}) {
			t.Errorf("DivRange(%v, %v) = %v, %v", a, a, r, ok)
		}
	}
}

func TestP140PowersAddUp(t *testing.T) {
	for _, a := range []impl.Range{{}, {Low: 1, High: 1}, {Low: 0, High: 1000000}, {Low: 333333, High: 333334}, {Low: 999999, High: 1000001}, {Low: 1000000, High: 1000000}, {Low: 1000001, High: 1000001}, {Low: 1025000, High: 1025000}, {Low: 1099999, High: 1100001}, {Low: 1500000, High: 2000000}} {
		for m := 0; m <= 40; m++ {
			for n := 0; m+n <= 40; n++ {
				sum, ok1 := impl.PowRange(a, m+n)
				x, ok2 := impl.PowRange(a, m)
				y, ok3 := impl.PowRange(a, n)
				product, ok4 := impl.MulRange(x, y)
				if ok1 && ok2 && ok3 && ok4 && !meet(sum, product) {
					t.Fatalf("PowRange(%v, %d) = %v, but the product of the powers %d and %d is %v", a, m+n, sum, m, n, product)
				}
				if a.High < 1200000 && !(ok1 && ok2 && ok3 && ok4) {
					t.Fatalf("PowRange(%v) with %d and %d fails", a, m, n)
				}
			}
		}
	}
}
