package tests

import (
	"math/big"
	"math/rand/v2"
	"slices"
	"testing"

	"loop.example/bonddesk/impl"
)

// noRates are numbers that are no rates in hundredths of a percent.
var noRates = append([]int{-1, -3000, 3001, 1000000}, extremes...)

// hardRates are rates whose last rest or value is nearly 0, or 0, or negative.
var hardRates = [][]int{
	{894, 605, 688, 408, 2869}, {776, 541, 331, 0, 126, 2137}, {519, 727, 165, 707, 2838}, {0, 0, 0, 0, 2499}, {0, 0, 0, 3000},
	{360, 848, 619, 407, 2853}, {332, 843, 697, 763, 284, 123, 1927}, {251, 285, 94, 427, 2678}, {493, 741, 107, 380, 76, 476, 258, 1613},
	{0, 0, 0, 0, 2500}, {0, 0, 0, 0, 2501}, {0, 0, 0, 0, 3000}, {0, 0, 0, 0, 0, 0, 0, 0, 0, 0, 0, 3000}, {100, 100, 100, 100, 2900, 100},
}

// rateLists returns lists of valid rates: all short ones of some rates, equal, rising, falling and mixed ones, and hard ones.
func rateLists() [][]int {
	out := slices.Clone(hardRates)
	few := []int{0, 1, 399, 500, 1234, 2999, 3000}
	for _, a := range few {
		out = append(out, []int{a}, slices.Repeat([]int{a}, 12), slices.Repeat([]int{a}, 11))
		for _, b := range few {
			out = append(out, []int{a, b}, slices.Repeat([]int{a, b}, 6))
			for _, c := range few {
				out = append(out, []int{a, b, c})
			}
		}
	}
	seed := 1
	for i := range 300 {
		var list []int
		for range 1 + i%12 {
			seed = (seed*1103515245 + 12345) % 2147483648
			list = append(list, seed/65536%min(100+10*i, 3001))
		}
		out = append(out, list)
	}
	return append(out, []int{100, 200, 300, 400, 500, 600, 700, 800, 900, 1000, 1100, 1200}, []int{1200, 1100, 1000, 900, 800, 700, 600, 500, 400, 300, 200, 100})
}

// goodCurves returns valid curves: those of rates, and others that no rates have, also some that rise.
func goodCurves() [][]impl.Range {
	var out [][]impl.Range
	for _, rates := range rateLists() {
		if c, ok := plainCurve(rates); ok {
			out = append(out, c)
		}
	}
	for _, r := range []impl.Range{{Low: 1, High: 1}, {Low: 1, High: 1000000}, {Low: 1000000, High: 1000000}, {Low: 999999, High: 1000000}, {Low: 499, High: 500}, {Low: 500, High: 500}, {Low: 500, High: 1000000}, {Low: 333333, High: 444444}} {
		out = append(out, []impl.Range{r}, slices.Repeat([]impl.Range{r}, 12), []impl.Range{{Low: 1000, High: 1000000}, r}, []impl.Range{r, {Low: 7, High: 1000000}, {Low: 123456, High: 654321}})
	}
	return append(out,
		[]impl.Range{{Low: 5, High: 6}, {Low: 5, High: 6}}, []impl.Range{{Low: 5, High: 6}, {Low: 1, High: 5}}, []impl.Range{{Low: 5, High: 5}, {Low: 5, High: 5}, {Low: 4, High: 5}},
		[]impl.Range{{Low: 900, High: 901}, {Low: 800, High: 900}, {Low: 799, High: 801}}, []impl.Range{{Low: 100, High: 200}, {Low: 300, High: 400}},
		[]impl.Range{{Low: 1000, High: 1000000}, {Low: 1000, High: 1000000}}, []impl.Range{{Low: 1000, High: 1000000}, {Low: 999, High: 1000000}},
	)
}

// badCurves returns ranges that are no curves.
func badCurves() [][]impl.Range {
	one := impl.Range{Low: 900000, High: 900001}
	out := [][]impl.Range{nil, {}, slices.Repeat([]impl.Range{one}, 13), slices.Repeat([]impl.Range{one}, 100)}
	others := []impl.Range{{}, {High: 1}, {Low: -1, High: 1}, {Low: -2, High: -1}, {Low: 1, High: 1000001}, {Low: 1000001, High: 1000001}, {Low: 2, High: 1}, {Low: 1000000, High: 999999}}
	for _, r := range append(others, badRanges()...) {
		out = append(out, []impl.Range{r}, []impl.Range{r, one}, []impl.Range{one, r}, []impl.Range{one, r, one}, append(slices.Repeat([]impl.Range{one}, 11), r))
	}
	return out
}

// plainCurve is CurveOf valid rates.
func plainCurve(rates []int) ([]impl.Range, bool) {
	var out []impl.Range
	low, high := 0, 0
	for _, rate := range rates {
		growth := int64(1000000 + 100*rate)
		restLow := roundedDown(big.NewRat(int64(1000000*1000000-100*rate*high), 1000000))
		restHigh := roundedUp(big.NewRat(int64(1000000*1000000-100*rate*low), 1000000))
		if restLow <= 0 {
			return nil, false
		}
		value := impl.Range{Low: roundedDown(big.NewRat(int64(restLow)*1000000, growth)), High: roundedUp(big.NewRat(int64(restHigh)*1000000, growth))}
		if value.Low <= 0 {
			return nil, false
		}
		out = append(out, value)
		low, high = low+value.Low, high+value.High
	}
	return out, true
}

// exactCurve is the values of 1 without any rounding.
func exactCurve(rates []int) []*big.Rat {
	var out []*big.Rat
	sum := new(big.Rat)
	for _, rate := range rates {
		r := big.NewRat(int64(rate), 10000)
		value := new(big.Rat).Sub(big.NewRat(1, 1), new(big.Rat).Mul(r, sum))
		value.Quo(value, r.Add(r, big.NewRat(1, 1)))
		out = append(out, value)
		sum = new(big.Rat).Add(sum, value)
	}
	return out
}

// hasNumber reports whether a range in millionths has a number of the library.
func hasNumber(r impl.Range, x *big.Rat) bool {
	millionths := new(big.Rat).Mul(x, big.NewRat(1000000, 1))
	return millionths.Cmp(big.NewRat(int64(r.Low), 1)) >= 0 && millionths.Cmp(big.NewRat(int64(r.High), 1)) <= 0
}

// plainSum is the sum of the bounds of ranges.
func plainSum(list []impl.Range) impl.Range {
	var sum impl.Range
	for _, r := range list {
		sum.Low += r.Low
		sum.High += r.High
	}
	return sum
}

// plainPar is ParValue of valid arguments.
func plainPar(c []impl.Range, rate int, years int) impl.Range {
	sum, last := plainSum(c[:years]), c[years-1]
	return impl.Range{Low: last.Low + roundedDown(big.NewRat(int64(rate*sum.Low), 10000)), High: last.High + roundedUp(big.NewRat(int64(rate*sum.High), 10000))}
}

// before returns the range of the value of 1 after k years of a curve.
func before(c []impl.Range, k int) impl.Range {
	return append([]impl.Range{{Low: 1000000, High: 1000000}}, c...)[k]
}

// plainForward is ForwardOf valid arguments.
func plainForward(c []impl.Range, k int) impl.Range {
	x, y := before(c, k), c[k]
	low, high := big.NewRat(int64(x.Low)*1000000, int64(y.High)), big.NewRat(int64(x.High)*1000000, int64(y.Low))
	return impl.Range{Low: roundedDown(low) - 1000000, High: roundedUp(high) - 1000000}
}

// plainSure is SureCurve of a valid curve.
func plainSure(c []impl.Range) bool {
	for k := 1; k < len(c); k++ {
		if c[k-1].Low < c[k].High {
			return false
		}
	}
	return true
}

// checkNoCurve checks that all functions of curves reject ranges.
func checkNoCurve(t *testing.T, c []impl.Range) {
	t.Helper()
	if impl.SureCurve(c) {
		t.Errorf("SureCurve(%v)", c)
	}
	for _, n := range []int{0, 1, 2, len(c) - 1, len(c)} {
		if r, ok := impl.ParValue(c, 500, n); ok || r != (impl.Range{}) {
			t.Errorf("ParValue(%v, 500, %d) = %v, %v", c, n, r, ok)
		}
		if r, ok := impl.ForwardOf(c, n); ok || r != (impl.Range{}) {
			t.Errorf("ForwardOf(%v, %d) = %v, %v", c, n, r, ok)
		}
	}
}

func TestCurveLimits(t *testing.T) {
	if impl.MaxYears != 12 || impl.MaxRate != 3000 {
		t.Errorf("limits = %d, %d", impl.MaxYears, impl.MaxRate)
	}
}

func TestCurveIsExact(t *testing.T) {
	made, refused := 0, 0
	for _, rates := range rateLists() {
		c, ok := impl.CurveOf(rates)
		want, valid := plainCurve(rates)
		if !slices.Equal(c, want) || ok != valid {
			t.Fatalf("CurveOf(%v) = %v, %v, want %v, %v", rates, c, ok, want, valid)
		}
		if !ok {
			refused++
			continue
		}
		made++
		for i, x := range exactCurve(rates) {
			if !hasNumber(c[i], x) {
				t.Fatalf("CurveOf(%v) has %v for %v", rates, c[i], x)
			}
		}
	}
	if made < 300 || refused < 30 {
		t.Errorf("%d curves, %d refused", made, refused)
	}
}

func TestCurvesByHand(t *testing.T) {
	for _, x := range []struct {
		rates []int
		want  []impl.Range
	}{
		{[]int{0}, []impl.Range{{Low: 1000000, High: 1000000}}},
		{[]int{1}, []impl.Range{{Low: 999900, High: 999901}}},
		// 1 divided by 1.25, and a rest of 0.8 divided by 1.25; then 1 minus 0.36 divided by 1.25.
		{[]int{2500, 2500, 2500}, []impl.Range{{Low: 800000, High: 800000}, {Low: 640000, High: 640000}, {Low: 512000, High: 512000}}},
		{[]int{3000}, []impl.Range{{Low: 769230, High: 769231}}},
		// The rests are 1 minus 0.05 times the value before: 952380.95 and 952381, divided by 1.05.
		{[]int{500, 500}, []impl.Range{{Low: 952380, High: 952381}, {Low: 907028, High: 907030}}},
		// With three values of 1 before, the rest is 0.1.
		{[]int{0, 0, 0, 3000}, []impl.Range{{Low: 1000000, High: 1000000}, {Low: 1000000, High: 1000000}, {Low: 1000000, High: 1000000}, {Low: 76923, High: 76924}}},
		// With four, it is 0.0004, 0, and negative.
		{[]int{0, 0, 0, 0, 2499}, []impl.Range{{Low: 1000000, High: 1000000}, {Low: 1000000, High: 1000000}, {Low: 1000000, High: 1000000}, {Low: 1000000, High: 1000000}, {Low: 320, High: 321}}},
		{[]int{0, 0, 0, 0, 2500}, nil},
		{[]int{0, 0, 0, 0, 2501}, nil},
		{[]int{0, 0, 0, 0, 2501, 0}, nil},
	} {
		if got, ok := impl.CurveOf(x.rates); !slices.Equal(got, x.want) || ok != (x.want != nil) {
			t.Errorf("CurveOf(%v) = %v, %v, want %v", x.rates, got, ok, x.want)
		}
	}
}

func TestRestsThatAreNotPositive(t *testing.T) {
	if c, ok := impl.CurveOf([]int{894, 605, 688, 408, 2869}); !ok || c[4] != (impl.Range{Low: 1, High: 4}) {
		t.Errorf("a value from 1 on = %v, %v", c, ok)
	}
	for name, rates := range map[string][]int{
		"a rest from 1 on, whose value is from 0 on": {360, 848, 619, 407, 2853},
		"a rest from 0 on, with a positive bound":    {251, 285, 94, 427, 2678},
		"a rest of 0":                         {0, 0, 0, 0, 2500},
		"a negative rest":                     {0, 0, 0, 0, 3000},
		"a negative rest in the midst":        {0, 0, 0, 0, 3000, 0},
		"a negative rest in the twelfth year": {0, 0, 0, 0, 0, 0, 0, 0, 0, 0, 0, 3000},
	} {
		if c, ok := impl.CurveOf(rates); ok || c != nil {
			t.Errorf("CurveOf %s = %v, %v", name, c, ok)
		}
	}
}

func TestCurvesOfInvalidRates(t *testing.T) {
	if c, ok := impl.CurveOf(make([]int, 12)); !ok || len(c) != 12 {
		t.Errorf("CurveOf twelve rates = %v, %v", c, ok)
	}
	lists := [][]int{nil, {}, make([]int, 13), make([]int, 100), slices.Repeat([]int{500}, 13)}
	for _, x := range noRates {
		lists = append(lists, []int{x}, []int{x, 500}, []int{500, x}, []int{500, x, 500}, append(make([]int, 11), x))
	}
	for _, rates := range lists {
		if c, ok := impl.CurveOf(rates); ok || c != nil {
			t.Errorf("CurveOf(%v) = %v, %v", rates, c, ok)
		}
	}
}

func TestFunctionsOfInvalidCurves(t *testing.T) {
	for _, c := range badCurves() {
		checkNoCurve(t, c)
	}
}

func TestCurvesWithOtherArguments(t *testing.T) {
	for _, c := range goodCurves() {
		for _, years := range append([]int{0, -1, len(c) + 1, 12 + len(c)}, extremes...) {
			if r, ok := impl.ParValue(c, 500, years); ok || r != (impl.Range{}) {
				t.Errorf("ParValue(%v, 500, %d) = %v, %v", c, years, r, ok)
			}
		}
		for _, k := range append([]int{-1, len(c), len(c) + 1}, extremes...) {
			if r, ok := impl.ForwardOf(c, k); ok || r != (impl.Range{}) {
				t.Errorf("ForwardOf(%v, %d) = %v, %v", c, k, r, ok)
			}
		}
		for _, rate := range noRates {
			if r, ok := impl.ParValue(c, rate, 1); ok || r != (impl.Range{}) {
				t.Errorf("ParValue(%v, %d, 1) = %v, %v", c, rate, r, ok)
			}
		}
	}
}

func TestParValueIsExact(t *testing.T) {
	for _, c := range goodCurves() {
		for years := 1; years <= len(c); years++ {
			for _, rate := range rates {
				want := plainPar(c, rate, years)
				if got, ok := impl.ParValue(c, rate, years); !ok || got != want {
					t.Fatalf("ParValue(%v, %d, %d) = %v, %v, want %v", c, rate, years, got, ok, want)
				}
			}
		}
	}
}

func TestForwardIsExact(t *testing.T) {
	for _, c := range goodCurves() {
		for k := range c {
			want := plainForward(c, k)
			if got, ok := impl.ForwardOf(c, k); !ok || got != want {
				t.Fatalf("ForwardOf(%v, %d) = %v, %v, want %v", c, k, got, ok, want)
			}
		}
	}
}

func TestSureCurveIsExact(t *testing.T) {
	seen := map[bool]int{}
	for _, c := range goodCurves() {
		got := impl.SureCurve(c)
		if got != plainSure(c) {
			t.Errorf("SureCurve(%v) = %v", c, got)
		}
		seen[got]++
	}
	if seen[true] < 30 || seen[false] < 30 {
		t.Errorf("SureCurve is %v", seen)
	}
}

func TestFunctionsOfCurvesByHand(t *testing.T) {
	c := []impl.Range{{Low: 952380, High: 952381}, {Low: 907028, High: 907030}}
	for _, x := range []struct {
		rate, years int
		want        impl.Range
	}{
		// 0.05 times 952380 is 47619; times 952381 it is 47619.05.
		{500, 1, impl.Range{Low: 999999, High: 1000001}},
		// 0.05 times 1859408 is 92970.4; times 1859411 it is 92970.55.
		{500, 2, impl.Range{Low: 999998, High: 1000001}},
		{0, 2, impl.Range{Low: 907028, High: 907030}},
		{3000, 1, impl.Range{Low: 952380 + 285714, High: 952381 + 285715}},
	} {
		if got, ok := impl.ParValue(c, x.rate, x.years); !ok || got != x.want {
			t.Errorf("ParValue %d of %d years = %v, %v, want %v", x.rate, x.years, got, ok, x.want)
		}
	}
	one := []impl.Range{{Low: 1, High: 1}, {Low: 1, High: 1000000}}
	for k, want := range []impl.Range{{Low: 999999000000, High: 999999000000}, {Low: -999999, High: 0}} {
		if got, ok := impl.ForwardOf(one, k); !ok || got != want {
			t.Errorf("ForwardOf(%v, %d) = %v, %v", one, k, got, ok)
		}
	}
	// 1 divided by 0.952381 is 1.0499999..., and by 0.952380 it is 1.05000105.
	for k, want := range []impl.Range{{Low: 49999, High: 50002}, {Low: 49998, High: 50002}} {
		if got, ok := impl.ForwardOf(c, k); !ok || got != want {
			t.Errorf("ForwardOf(%v, %d) = %v, %v", c, k, got, ok)
		}
	}
	for _, x := range []struct {
		c    []impl.Range
		want bool
	}{
		{[]impl.Range{{Low: 1, High: 1000000}}, true}, {[]impl.Range{{Low: 5, High: 6}, {Low: 5, High: 5}}, true}, {[]impl.Range{{Low: 5, High: 6}, {Low: 1, High: 6}}, false},
		{[]impl.Range{{Low: 9, High: 9}, {Low: 7, High: 8}, {Low: 6, High: 8}}, false}, {[]impl.Range{{Low: 9, High: 9}, {Low: 8, High: 8}, {Low: 7, High: 8}}, true}, {[]impl.Range{{Low: 9, High: 9}, {Low: 8, High: 10}, {Low: 7, High: 7}}, false},
	} {
		if got := impl.SureCurve(x.c); got != x.want {
			t.Errorf("SureCurve(%v) = %v", x.c, got)
		}
	}
}

func TestP57BondsWithTheseRatesAreWorth1(t *testing.T) {
	for _, rates := range rateLists() {
		c, _ := impl.CurveOf(rates)
		for i := range c {
			if r, ok := impl.ParValue(c, rates[i], i+1); !ok || !impl.InRange(r, 1000000) {
				t.Fatalf("ParValue of year %d with CurveOf(%v) = %v, %v", i+1, rates, r, ok)
			}
		}
	}
}

func TestP58LaterYearsDoNotMatter(t *testing.T) {
	for _, rates := range rateLists() {
		c, ok := impl.CurveOf(rates)
		for n := 1; ok && n < len(rates); n++ {
			if got, ok := impl.CurveOf(rates[:n]); !ok || !slices.Equal(got, c[:n]) {
				t.Fatalf("CurveOf(%v) = %v, %v, with all rates %v", rates[:n], got, ok, c)
			}
		}
	}
}

func TestP59WithoutInterestNothingIsDiscounted(t *testing.T) {
	for n := 1; n <= 12; n++ {
		c, ok := impl.CurveOf(make([]int, n))
		if !ok || !slices.Equal(c, slices.Repeat([]impl.Range{{Low: 1000000, High: 1000000}}, n)) {
			t.Errorf("CurveOf %d times 0 = %v, %v", n, c, ok)
		}
	}
}

func TestP60HigherCouponsAreWorthMore(t *testing.T) {
	for i, c := range goodCurves() {
		if i%5 != 0 && len(c) > 3 {
			continue
		}
		for years := 1; years <= len(c); years++ {
			low := c[years-1]
			for rate := 0; rate <= 3000; rate += 1 + rate%7 {
				r, ok := impl.ParValue(c, rate, years)
				if !ok || r.Low < low.Low || r.High < low.High || rate == 0 && r != low {
					t.Fatalf("ParValue(%v, %d, %d) = %v, %v behind %v", c, rate, years, r, ok, low)
				}
				low = r
			}
		}
	}
}

func TestP61ForwardRatesLeadFromYearToYear(t *testing.T) {
	for _, c := range goodCurves() {
		for k := range c {
			f, ok := impl.ForwardOf(c, k)
			low := big.NewRat(int64(f.Low+1000000)*int64(c[k].Low), 1000000)
			high := big.NewRat(int64(f.High+1000000)*int64(c[k].High), 1000000)
			back := impl.Range{Low: roundedDown(low), High: roundedUp(high)}
			if !ok || !within(before(c, k), back) {
				t.Fatalf("ForwardOf(%v, %d) = %v, %v leads back to %v", c, k, f, ok, back)
			}
		}
	}
}

func TestP62SureCurvesHaveNoNegativeForwardRates(t *testing.T) {
	for _, c := range goodCurves() {
		for k := range c {
			if f, ok := impl.ForwardOf(c, k); !ok || impl.SureCurve(c) && f.Low < 0 {
				t.Fatalf("ForwardOf(%v, %d) = %v, %v", c, k, f, ok)
			}
		}
	}
}

func TestP145HigherRatesDiscountMore(t *testing.T) {
	last := impl.Range{Low: 1000000, High: 1000000}
	for rate := range 3001 {
		for _, rates := range [][]int{{rate}, {rate, 500}} {
			c, ok := impl.CurveOf(rates)
			if !ok || c[0].Low > last.Low || c[0].High > last.High {
				t.Fatalf("CurveOf(%v) = %v, %v behind %v", rates, c, ok, last)
			}
			last = c[0]
		}
	}
}

func TestP146PartsOfFallingCurvesFall(t *testing.T) {
	for _, c := range goodCurves() {
		if len(c) > 1 && impl.SureCurve(c) && (!impl.SureCurve(c[:len(c)-1]) || !impl.SureCurve(c[1:])) {
			t.Errorf("a part of %v does not fall", c)
		}
	}
}

func TestP160ForAllRatesBondsWithTheseRatesAreWorth1(t *testing.T) {
	random := rand.New(rand.NewPCG(11, 160))
	seen := map[bool]int{}
	for range 20000 {
		rates := make([]int, 1+random.IntN(12))
		limit := []int{10, 500, 1500, 3000}[random.IntN(4)]
		for i := range rates {
			rates[i] = random.IntN(limit + 1)
		}
		c, ok := impl.CurveOf(rates)
		want, valid := plainCurve(rates)
		if ok != valid || !slices.Equal(c, want) {
			t.Fatalf("CurveOf(%v) = %v, %v, want %v, %v", rates, c, ok, want, valid)
		}
		seen[ok]++
		for i := range c {
			if r, ok := impl.ParValue(c, rates[i], i+1); !ok || !impl.InRange(r, 1000000) {
				t.Fatalf("ParValue of year %d with CurveOf(%v) = %v, %v", i+1, rates, r, ok)
			}
		}
		rates[random.IntN(len(rates))] = noRates[random.IntN(len(noRates))]
		if c, ok := impl.CurveOf(rates); ok || c != nil {
			t.Fatalf("CurveOf(%v) = %v, %v", rates, c, ok)
		}
	}
	if seen[true] < 5000 || seen[false] < 1000 {
		t.Errorf("curves: %v", seen)
	}
}

func TestCurvesStay(t *testing.T) {
	rates := []int{500, 300, 400, 200, 100}
	c, _ := impl.CurveOf(rates[:3])
	want := slices.Clone(c)
	other, _ := impl.CurveOf(rates[:3])
	other[0].Low = 7
	if !slices.Equal(rates, []int{500, 300, 400, 200, 100}) || !slices.Equal(c, want) {
		t.Errorf("CurveOf leaves %v and %v", rates, c)
	}
	impl.ParValue(c, 500, 2)
	impl.ForwardOf(c, 1)
	impl.SureCurve(c[:2])
	if !slices.Equal(c, want) {
		t.Errorf("functions of curves leave %v of %v", c, want)
	}
}
