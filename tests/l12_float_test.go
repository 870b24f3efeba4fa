package tests

import (
	"math/big"
	"slices"
	"testing"

	"loop.example/bonddesk/impl"
)

// plainAt is ValueAt of valid arguments.
func plainAt(c []impl.Range, months int) impl.Range {
	k, rest := months/12, int64(months%12)
	x := before(c, k)
	if rest == 0 {
		return x
	}
	y := c[k]
	low := big.NewRat((12-rest)*int64(x.Low)+rest*int64(y.Low), 12)
	high := big.NewRat((12-rest)*int64(x.High)+rest*int64(y.High), 12)
	return impl.Range{Low: roundedDown(low), High: roundedUp(high)}
}

// plainFloat is FloatValue of a valid curve and a number of its years.
func plainFloat(c []impl.Range, years int) (impl.Range, bool) {
	var sum impl.Range
	for k := range years {
		f := plainForward(c, k)
		if !plainValid(f) {
			return impl.Range{}, false
		}
		paid, ok := plainMul(f, c[k])
		sum = impl.Range{Low: sum.Low + paid.Low, High: sum.High + paid.High}
		if !ok || !plainValid(sum) {
			return impl.Range{}, false
		}
	}
	sum = impl.Range{Low: sum.Low + c[years-1].Low, High: sum.High + c[years-1].High}
	if !plainValid(sum) {
		return impl.Range{}, false
	}
	return sum, true
}

// plainSwap is SwapRate of a valid curve and a number of its years.
func plainSwap(c []impl.Range, years int) (impl.Range, bool) {
	last := c[years-1]
	return plainDiv(impl.Range{Low: 1000000 - last.High, High: 1000000 - last.Low}, plainSum(c[:years]))
}

// eachYear calls a function with valid curves and the numbers of their years.
func eachYear(f func(c []impl.Range, years int)) {
	for _, c := range goodCurves() {
		for years := 1; years <= len(c); years++ {
			f(c, years)
		}
	}
}

// checkYears compares a function of curves and numbers of years with another one, and checks that both succeed and fail.
func checkYears(t *testing.T, compute func(c []impl.Range, years int) (impl.Range, bool), plain func(c []impl.Range, years int) (impl.Range, bool)) {
	t.Helper()
	seen := map[bool]int{}
	eachYear(func(c []impl.Range, years int) {
		want, valid := plain(c, years)
		if got, ok := compute(c, years); got != want || ok != valid {
			t.Fatalf("%d years of %v have %v, %v, want %v, %v", years, c, got, ok, want, valid)
		}
		seen[valid]++
	})
	if seen[true] < 300 || seen[false] < 10 {
		t.Errorf("valid arguments: %v", seen)
	}
}

func TestFloatsOfInvalidCurves(t *testing.T) {
	for _, c := range badCurves() {
		for _, n := range []int{0, 1, 6, 12, len(c), 12 * len(c)} {
			if r, ok := impl.ValueAt(c, n); ok || r != (impl.Range{}) {
				t.Errorf("ValueAt(%v, %d) = %v, %v", c, n, r, ok)
			}
			if r, ok := impl.FloatValue(c, n); ok || r != (impl.Range{}) {
				t.Errorf("FloatValue(%v, %d) = %v, %v", c, n, r, ok)
			}
			if r, ok := impl.SwapRate(c, n); ok || r != (impl.Range{}) {
				t.Errorf("SwapRate(%v, %d) = %v, %v", c, n, r, ok)
			}
		}
	}
}

func TestFloatsOfInvalidMonthsAndYears(t *testing.T) {
	for _, c := range goodCurves() {
		for _, months := range append([]int{-1, -12, 12*len(c) + 1, 12*len(c) + 12}, extremes...) {
			if r, ok := impl.ValueAt(c, months); ok || r != (impl.Range{}) {
				t.Errorf("ValueAt(%v, %d) = %v, %v", c, months, r, ok)
			}
		}
		for _, years := range append([]int{-1, 0, len(c) + 1, 12 * (len(c) + 1)}, extremes...) {
			if r, ok := impl.FloatValue(c, years); ok || r != (impl.Range{}) {
				t.Errorf("FloatValue(%v, %d) = %v, %v", c, years, r, ok)
			}
			if r, ok := impl.SwapRate(c, years); ok || r != (impl.Range{}) {
				t.Errorf("SwapRate(%v, %d) = %v, %v", c, years, r, ok)
			}
		}
	}
}

func TestValueAtIsExact(t *testing.T) {
	for _, c := range goodCurves() {
		for months := range 12*len(c) + 1 {
			if got, ok := impl.ValueAt(c, months); !ok || got != plainAt(c, months) {
				t.Fatalf("ValueAt(%v, %d) = %v, %v, want %v", c, months, got, ok, plainAt(c, months))
			}
		}
	}
}

func TestFloatValueIsExact(t *testing.T) {
	checkYears(t, impl.FloatValue, plainFloat)
}

func TestSwapRateIsExact(t *testing.T) {
	checkYears(t, impl.SwapRate, plainSwap)
}

func TestMonthsBetweenYearsByHand(t *testing.T) {
	c := []impl.Range{{Low: 952380, High: 952381}, {Low: 907028, High: 907030}}
	for _, x := range []struct {
		months int
		want   impl.Range
	}{
		{0, impl.Range{Low: 1000000, High: 1000000}},
		// The bounds fall by 47620 and 47619 in the first year: a twelfth is 3968.33 and 3968.25.
		{1, impl.Range{Low: 996031, High: 996032}},
		{6, impl.Range{Low: 976190, High: 976191}},
		{11, impl.Range{Low: 956348, High: 956350}},
		{12, impl.Range{Low: 952380, High: 952381}},
		// They fall by 45352 and 45351 in the second one: a twelfth is 3779.33 and 3779.25.
		{13, impl.Range{Low: 948600, High: 948602}},
		{16, impl.Range{Low: 937262, High: 937264}},
		{23, impl.Range{Low: 910807, High: 910810}},
		{24, impl.Range{Low: 907028, High: 907030}},
	} {
		if got, ok := impl.ValueAt(c, x.months); !ok || got != x.want {
			t.Errorf("ValueAt %d months = %v, %v, want %v", x.months, got, ok, x.want)
		}
	}
	if got, ok := impl.ValueAt(c, 25); ok || got != (impl.Range{}) {
		t.Errorf("ValueAt 25 months = %v, %v", got, ok)
	}
}

func TestFloatsByHand(t *testing.T) {
	for _, x := range []struct {
		c    []impl.Range
		want impl.Range
		ok   bool
	}{
		{[]impl.Range{{Low: 1000000, High: 1000000}}, impl.Range{Low: 1000000, High: 1000000}, true},
		{[]impl.Range{{Low: 800000, High: 800000}, {Low: 640000, High: 640000}}, impl.Range{Low: 1000000, High: 1000000}, true},
		// 0.5 is 1 minus a rate of 100 percent, and rises to 1 at -50 percent.
		{[]impl.Range{{Low: 500000, High: 500000}, {Low: 1000000, High: 1000000}}, impl.Range{Low: 1000000, High: 1000000}, true},
		{[]impl.Range{{Low: 500, High: 1000000}}, impl.Range{Low: 500, High: 2000000000}, true},
		// The greatest forward rate is that of 500, 1999000000; that of 499 is not valid.
		{[]impl.Range{{Low: 500, High: 500}}, impl.Range{Low: 1000000, High: 1000000}, true},
		{[]impl.Range{{Low: 499, High: 499}}, impl.Range{}, false},
		{[]impl.Range{{Low: 1, High: 1}}, impl.Range{}, false},
		// A sum of 3998000000 is not valid.
		{[]impl.Range{{Low: 500, High: 1000000}, {Low: 500, High: 1000000}}, impl.Range{}, false},
		// The second rate is from -0.999 on. 999000000 twice and 1000000 are valid; with 1000001002 in place of the second one, only the last range is too much.
		{[]impl.Range{{Low: 1000, High: 1000000}, {Low: 1000, High: 1000000}}, impl.Range{Low: -998000, High: 1999000000}, true},
		{[]impl.Range{{Low: 1000, High: 1000000}, {Low: 999, High: 1000000}}, impl.Range{}, false},
	} {
		if got, ok := impl.FloatValue(x.c, len(x.c)); got != x.want || ok != x.ok {
			t.Errorf("FloatValue(%v) = %v, %v, want %v, %v", x.c, got, ok, x.want, x.ok)
		}
	}
}

func TestSwapsByHand(t *testing.T) {
	for _, x := range []struct {
		c    []impl.Range
		want impl.Range
		ok   bool
	}{
		{[]impl.Range{{Low: 1000000, High: 1000000}}, impl.Range{}, true},
		{[]impl.Range{{Low: 800000, High: 800000}, {Low: 640000, High: 640000}}, impl.Range{Low: 250000, High: 250000}, true},
		// 47619 divided by 952381 is 0.0499999..., and 47620 by 952380 is 0.05000105.
		{[]impl.Range{{Low: 952380, High: 952381}}, impl.Range{Low: 49999, High: 50002}, true},
		{[]impl.Range{{Low: 500000, High: 1000000}}, impl.Range{Low: 0, High: 1000000}, true},
		{[]impl.Range{{Low: 500, High: 500}}, impl.Range{Low: 1999000000, High: 1999000000}, true},
		{[]impl.Range{{Low: 499, High: 499}}, impl.Range{}, false},
		{[]impl.Range{{Low: 499, High: 1000000}}, impl.Range{}, false},
		{[]impl.Range{{Low: 1, High: 1}, {Low: 1000000, High: 1000000}}, impl.Range{}, true},
		{[]impl.Range{{Low: 1, High: 1}, {Low: 1, High: 1}}, impl.Range{}, false},
	} {
		if got, ok := impl.SwapRate(x.c, len(x.c)); got != x.want || ok != x.ok {
			t.Errorf("SwapRate(%v) = %v, %v, want %v, %v", x.c, got, ok, x.want, x.ok)
		}
	}
}

func TestP63ValuesBetweenAreBetween(t *testing.T) {
	for _, c := range goodCurves() {
		if r, ok := impl.ValueAt(c, 0); !ok || r != (impl.Range{Low: 1000000, High: 1000000}) {
			t.Fatalf("ValueAt(%v, 0) = %v, %v", c, r, ok)
		}
		for months := range 12 * len(c) {
			x, y := before(c, months/12), c[months/12]
			r, ok := impl.ValueAt(c, months)
			if !ok || r.Low < min(x.Low, y.Low) || r.Low > max(x.Low, y.Low) || r.High < min(x.High, y.High) || r.High > max(x.High, y.High) {
				t.Fatalf("ValueAt(%v, %d) = %v, %v", c, months, r, ok)
			}
		}
	}
}

func TestP64YearsAreMonths(t *testing.T) {
	eachYear(func(c []impl.Range, years int) {
		if r, ok := impl.ValueAt(c, 12*years); !ok || r != c[years-1] {
			t.Fatalf("ValueAt(%v, %d) = %v, %v", c, 12*years, r, ok)
		}
	})
}

func TestP65FloatingBondsAreWorth1(t *testing.T) {
	eachYear(func(c []impl.Range, years int) {
		if r, ok := impl.FloatValue(c, years); ok && !impl.InRange(r, 1000000) {
			t.Fatalf("FloatValue(%v, %d) = %v", c, years, r)
		}
	})
	for _, rates := range [][]int{{0}, {500}, {3000}, {100, 200, 300}, slices.Repeat([]int{500}, 12), slices.Repeat([]int{3000}, 12)} {
		c, _ := impl.CurveOf(rates)
		if r, ok := impl.FloatValue(c, len(c)); !ok || !impl.InRange(r, 1000000) {
			t.Errorf("FloatValue with CurveOf(%v) = %v, %v", rates, r, ok)
		}
	}
}

func TestP66SwapRatesMakeBondsWorth1(t *testing.T) {
	eachYear(func(c []impl.Range, years int) {
		r, ok := impl.SwapRate(c, years)
		if !ok {
			return
		}
		sum, last := plainSum(c[:years]), c[years-1]
		paid, _ := impl.MulRange(r, sum)
		if last.Low+paid.Low > 1000000 || last.High+paid.High < 1000000 {
			t.Fatalf("SwapRate(%v, %d) = %v", c, years, r)
		}
	})
}

func TestP67SwapRatesAreTheRatesOfTheCurve(t *testing.T) {
	for _, rates := range rateLists() {
		c, _ := impl.CurveOf(rates)
		for i := range c {
			if r, ok := impl.SwapRate(c, i+1); !ok || !impl.InRange(r, 100*rates[i]) {
				t.Fatalf("SwapRate of %d years with CurveOf(%v) = %v, %v", i+1, rates, r, ok)
			}
		}
	}
}

func TestFloatsStay(t *testing.T) {
	c := []impl.Range{{Low: 952380, High: 952381}, {Low: 907028, High: 907030}, {Low: 863837, High: 863840}}
	want := slices.Clone(c)
	impl.ValueAt(c[:2], 18)
	impl.FloatValue(c[:2], 2)
	impl.SwapRate(c[:2], 2)
	if !slices.Equal(c, want) {
		t.Errorf("functions of floating bonds leave %v of %v", c, want)
	}
}
