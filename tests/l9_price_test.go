package tests

import (
	"math/big"
	"math/rand/v2"
	"slices"
	"testing"

	"loop.example/bonddesk/impl"
)

// yields are yields for a period, in ascending order, at and around multiples of YieldStep.
var yields = []int{0, 1, 2, 3, 999, 2499, 2500, 2501, 33333, 47500, 50000, 97499, 97500, 97501, 99999, 100000}

// otherYields are numbers that are no yields.
var otherYields = append([]int{-1, -2500, impl.MaxYield + 1, impl.MaxYield + 2500, -impl.MaxYield}, extremes...)

// longBonds are bonds with the most periods, the greatest payments, and the first and last days.
var longBonds = []impl.Bond{
	{Start: day(2040, 2, 29), End: day(2080, 2, 29), Months: 12, Rate: 3000},
	{Start: day(2040, 3, 1), End: day(2080, 2, 29), Months: 12, Rate: 2999},
	{Start: day(2060, 1, 31), End: day(2080, 1, 31), Months: 6, Rate: 731},
	{Start: day(2010, 5, 17), End: day(2020, 5, 16), Months: 3, Rate: 0},
	{Start: 0, End: day(1993, 5, 1), Months: 1, Rate: 3000},
	{Start: impl.MaxDay - 14000, End: impl.MaxDay, Months: 12, Rate: 1},
}

// discountTerms are days that have passed and days of a period.
var discountTerms = [][2]int{{0, 1}, {1, 1}, {0, 3}, {1, 3}, {2, 3}, {3, 3}, {0, 31}, {30, 31}, {31, 31}, {0, 366}, {1, 366}, {200, 366}, {365, 366}, {366, 366}, {0, 4000}, {1, 4000}, {3999, 4000}, {4000, 4000}}

// pricedBonds returns valid bonds, some with all kinds of schedules.
func pricedBonds() []impl.Bond {
	out := slices.Concat(dailyBonds, longBonds)
	for i, b := range someBonds() {
		if i%211 == 0 {
			out = append(out, b)
		}
	}
	return out
}

// runningDays returns some days on which a bond runs: the first and last ones, and those at and around the end of the first period and of a later one.
func runningDays(b impl.Bond) []int {
	out := []int{b.Start, b.Start + 1, (b.Start + b.End) / 2, b.End - 2, b.End - 1}
	list := plainSchedule(b.Start, b.End, b.Months)
	for _, p := range []impl.Period{list[0], list[len(list)/2]} {
		out = append(out, p.To-1, p.To, p.To+1)
	}
	return slices.DeleteFunc(out, func(n int) bool { return n < b.Start || n >= b.End })
}

// eachPriced calls a function with bonds and days on which they run.
func eachPriced(f func(b impl.Bond, n int)) {
	for _, b := range pricedBonds() {
		for _, n := range runningDays(b) {
			f(b, n)
		}
	}
}

// plainDiscount is DiscountOf valid arguments.
func plainDiscount(yield int, passed int, days int, periods int) impl.Range {
	begun := big.NewRat(int64(yield*(days-passed)), int64(days))
	low, high := 1000000+roundedDown(begun), 1000000+roundedUp(begun)
	for range periods {
		low = roundedDown(big.NewRat(int64(low*(1000000+yield)), 1000000))
		high = roundedUp(big.NewRat(int64(high*(1000000+yield)), 1000000))
	}
	return impl.Range{Low: roundedDown(big.NewRat(1000000000000, int64(high))), High: roundedUp(big.NewRat(1000000000000, int64(low)))}
}

// exactDiscount is the value of 1 without any rounding.
func exactDiscount(yield int, passed int, days int, periods int) *big.Rat {
	growth := big.NewRat(int64(1000000*days+yield*(days-passed)), int64(1000000*days))
	for range periods {
		growth.Mul(growth, big.NewRat(int64(1000000+yield), 1000000))
	}
	return growth.Inv(growth)
}

// eachPayment calls a function with the payments of a valid bond behind a day, and the arguments of DiscountOf but the yield.
func eachPayment(b impl.Bond, n int, f func(amount int, passed int, days int, periods int)) {
	flows := plainFlows(b)
	var running impl.Period
	first := -1
	for i, p := range plainSchedule(b.Start, b.End, b.Months) {
		if p.From <= n && n < p.To {
			first, running = i, p
		}
		if first >= 0 {
			f(flows[i].Amount, n-running.From, running.To-running.From, i-first)
		}
	}
}

// plainPrice is PriceOf a valid bond with a valid yield at a day on which it runs.
func plainPrice(b impl.Bond, n int, yield int) impl.Range {
	low, high := 0, 0
	eachPayment(b, n, func(amount int, passed int, days int, periods int) {
		r := plainDiscount(yield, passed, days, periods)
		low += amount * r.Low
		high += amount * r.High
	})
	return impl.Range{Low: roundedDown(big.NewRat(int64(low), 1000000)), High: roundedUp(big.NewRat(int64(high), 1000000))}
}

// paymentsBehind is the sum of all payments of a valid bond behind a day.
func paymentsBehind(b impl.Bond, n int) int {
	sum := 0
	for _, f := range plainFlows(b) {
		if f.Day > n {
			sum += f.Amount
		}
	}
	return sum
}

// pricesAround returns prices at and around those of a bond with some yields, and others.
func pricesAround(b impl.Bond, n int) []int {
	out := append([]int{-1, 0, 1, 200, 10000, 50000, 200000}, extremes...)
	for _, yield := range []int{0, 2500, 5000, 50000, 97500, 100000} {
		r := impl.PriceOf(b, n, yield)
		out = append(out, r.Low-1, r.Low, r.Low+1, r.High-1, r.High, r.High+1)
	}
	return out
}

// plainYields is YieldOf with the prices for all yields, from 0 on.
func plainYields(prices []impl.Range, dirty int) (int, int) {
	least, most := -1, -1
	for i, r := range prices {
		if r.Low >= dirty {
			least = 2500 * i
		}
		if r.High <= dirty && most == -1 {
			most = 2500 * i
		}
	}
	return least, most
}

func TestYieldLimits(t *testing.T) {
	if impl.MaxYield != 100000 || impl.YieldStep != 2500 {
		t.Errorf("limits = %d, %d", impl.MaxYield, impl.YieldStep)
	}
}

func TestDiscountIsExactlyRounded(t *testing.T) {
	for _, yield := range yields {
		for _, x := range discountTerms {
			for periods := 0; periods <= 40; periods++ {
				got, want := impl.DiscountOf(yield, x[0], x[1], periods), plainDiscount(yield, x[0], x[1], periods)
				if got != want {
					t.Fatalf("DiscountOf(%d, %d, %d, %d) = %v, want %v", yield, x[0], x[1], periods, got, want)
				}
			}
		}
	}
}

func TestDiscountHasTheExactValue(t *testing.T) {
	for _, yield := range yields {
		for _, x := range discountTerms {
			for _, periods := range []int{0, 1, 2, 7, 39, 40} {
				r := impl.DiscountOf(yield, x[0], x[1], periods)
				value := new(big.Rat).Mul(exactDiscount(yield, x[0], x[1], periods), big.NewRat(1000000, 1))
				if value.Cmp(big.NewRat(int64(r.Low), 1)) < 0 || value.Cmp(big.NewRat(int64(r.High), 1)) > 0 {
					t.Fatalf("DiscountOf(%d, %d, %d, %d) = %v has not %v", yield, x[0], x[1], periods, r, value.FloatString(3))
				}
			}
		}
	}
}

func TestDiscountByHand(t *testing.T) {
	for _, x := range []struct {
		yield, passed, days, periods int
		want                         impl.Range
	}{
		{0, 0, 1, 40, impl.Range{Low: 1000000, High: 1000000}},
		{100000, 0, 1, 0, impl.Range{Low: 909090, High: 909091}},
		{100000, 4000, 4000, 0, impl.Range{Low: 1000000, High: 1000000}},
		{50000, 1, 2, 0, impl.Range{Low: 975609, High: 975610}},
		// 1.025 times 1.05 is 1.07625.
		{50000, 1, 2, 1, impl.Range{Low: 929152, High: 929153}},
		// The growth is between 1 and 1.000001, and then between 1.000001 and 1.000003.
		{1, 1, 2, 0, impl.Range{Low: 999999, High: 1000000}},
		{1, 1, 2, 1, impl.Range{Low: 999997, High: 1000000}},
	} {
		if got := impl.DiscountOf(x.yield, x.passed, x.days, x.periods); got != x.want {
			t.Errorf("DiscountOf(%d, %d, %d, %d) = %v, want %v", x.yield, x.passed, x.days, x.periods, got, x.want)
		}
	}
}

func TestDiscountOfInvalidArguments(t *testing.T) {
	check := func(yield int, passed int, days int, periods int) {
		t.Helper()
		if got := impl.DiscountOf(yield, passed, days, periods); got != (impl.Range{}) {
			t.Errorf("DiscountOf(%d, %d, %d, %d) = %v", yield, passed, days, periods, got)
		}
	}
	for _, x := range otherYields {
		check(x, 0, 1, 0)
		check(x, 31, 31, 40)
	}
	for _, x := range append([]int{-1, 32, 33}, extremes...) {
		check(50000, x, 31, 3)
		check(0, x, 31, 0)
	}
	for _, x := range append([]int{0, -1, -31, 4001, 40000}, extremes...) {
		check(50000, 0, x, 3)
		check(0, x, x, 0)
	}
	for _, x := range append([]int{-1, 41, 42, -40}, extremes...) {
		check(50000, 5, 31, x)
		check(0, 0, 1, x)
	}
	if got := impl.DiscountOf(100000, 0, 4000, 40); got.Low <= 0 || got.Low > got.High {
		t.Errorf("DiscountOf at the limits = %v", got)
	}
}

func TestPriceIsExactlyRounded(t *testing.T) {
	eachPriced(func(b impl.Bond, n int) {
		for _, yield := range []int{0, 1, 2500, 33333, 100000} {
			if got, want := impl.PriceOf(b, n, yield), plainPrice(b, n, yield); got != want {
				t.Fatalf("PriceOf(%v, %d, %d) = %v, want %v", b, n, yield, got, want)
			}
		}
	})
	b := impl.Bond{Start: day(2020, 3, 1), End: day(2021, 1, 15), Months: 6, Rate: 399}
	for n := b.Start; n < b.End; n++ {
		for _, yield := range yields {
			if got, want := impl.PriceOf(b, n, yield), plainPrice(b, n, yield); got != want {
				t.Fatalf("PriceOf(%v, %d, %d) = %v, want %v", b, n, yield, got, want)
			}
		}
	}
}

func TestPriceHasTheExactValue(t *testing.T) {
	for _, b := range slices.Concat(dailyBonds, longBonds) {
		for _, n := range runningDays(b) {
			for _, yield := range []int{0, 1, 47500, 99999} {
				r, value := impl.PriceOf(b, n, yield), new(big.Rat)
				eachPayment(b, n, func(amount int, passed int, days int, periods int) {
					x := exactDiscount(yield, passed, days, periods)
					value.Add(value, x.Mul(x, big.NewRat(int64(amount), 1)))
				})
				if value.Cmp(big.NewRat(int64(r.Low), 1)) < 0 || value.Cmp(big.NewRat(int64(r.High), 1)) > 0 {
					t.Fatalf("PriceOf(%v, %d, %d) = %v has not %v", b, n, yield, r, value.FloatString(3))
				}
			}
		}
	}
}

func TestPriceByHand(t *testing.T) {
	year := impl.Bond{Start: day(2020, 1, 15), End: day(2021, 1, 15), Months: 12, Rate: 500}
	half := impl.Bond{Start: day(2020, 1, 15), End: day(2021, 1, 15), Months: 6, Rate: 400}
	short := impl.Bond{Start: day(2023, 2, 10), End: day(2023, 3, 31), Months: 1, Rate: 1200}
	for _, x := range []struct {
		b        impl.Bond
		n, yield int
		want     impl.Range
	}{
		{year, year.Start, 100000, impl.Range{Low: 9545, High: 9546}},
		// Half of the period is left, which makes 1.05.
		{year, day(2020, 7, 16), 100000, impl.Range{Low: 9999, High: 10001}},
		{year, year.End - 1, 100000, impl.Range{Low: 10497, High: 10498}},
		// 200 divided by 1.02 and 10200 by 1.0404 are 9999.99.. and 10000.00.. with rounded discounts.
		{half, half.Start, 20000, impl.Range{Low: 9999, High: 10001}},
		{half, half.Start, 0, impl.Range{Low: 10400, High: 10400}},
		{half, day(2020, 7, 14), 0, impl.Range{Low: 10400, High: 10400}},
		// The first coupon is behind, and the second one a whole period away.
		{half, day(2020, 7, 15), 0, impl.Range{Low: 10200, High: 10200}},
		{half, day(2020, 7, 15), 20000, impl.Range{Low: 9999, High: 10001}},
		// 9 of 18 days of a short period are left, and then a whole one: 58 divided by 1.05, and 10100 by 1.05 times 1.1.
		{short, day(2023, 2, 19), 100000, impl.Range{Low: 8799, High: 8800}},
	} {
		if got := impl.PriceOf(x.b, x.n, x.yield); got != x.want {
			t.Errorf("PriceOf(%v, %v, %d) = %v, want %v", x.b, dateAt(x.n), x.yield, got, x.want)
		}
	}
}

func TestPricesOfInvalidArguments(t *testing.T) {
	check := func(b impl.Bond, n int, yield int) {
		t.Helper()
		if got := impl.PriceOf(b, n, yield); got != (impl.Range{}) {
			t.Errorf("PriceOf(%v, %d, %d) = %v", b, n, yield, got)
		}
	}
	checkYields := func(b impl.Bond, n int) {
		t.Helper()
		for _, dirty := range append([]int{-1, 0, 1, 10000, 10500}, extremes...) {
			if least, most := impl.YieldOf(b, n, dirty); least != -1 || most != -1 {
				t.Errorf("YieldOf(%v, %d, %d) = %d, %d", b, n, dirty, least, most)
			}
		}
	}
	for _, b := range badBonds() {
		for _, n := range []int{b.Start, b.Start + 1, b.End - 1, day(2020, 8, 1)} {
			check(b, n, 0)
			check(b, n, 50000)
			checkYields(b, n)
		}
	}
	for _, b := range slices.Concat(dailyBonds, longBonds) {
		for _, n := range append([]int{b.Start - 1, b.End, b.End + 1}, outsideDays...) {
			check(b, n, 0)
			check(b, n, 100000)
			checkYields(b, n)
		}
		for _, yield := range otherYields {
			check(b, b.Start, yield)
			check(b, b.End-1, yield)
		}
	}
}

func TestP45LaterMoneyIsWorthLess(t *testing.T) {
	for _, x := range discountTerms {
		for periods := 0; periods <= 40; periods++ {
			before := impl.Range{Low: 1000000, High: 1000000}
			for _, yield := range yields {
				r := impl.DiscountOf(yield, x[0], x[1], periods)
				if r.Low > r.High || r.High > before.High || r.Low > before.Low || yield == 0 && r != before {
					t.Fatalf("DiscountOf(%d, %d, %d, %d) = %v behind %v", yield, x[0], x[1], periods, r, before)
				}
				before = r
				if next := impl.DiscountOf(yield, x[0], x[1], periods+1); periods < 40 && (next.Low > r.Low || next.High > r.High) {
					t.Fatalf("DiscountOf(%d, %d, %d) grows from %v to %v behind %d periods", yield, x[0], x[1], r, next, periods)
				}
			}
		}
	}
}

func TestP46MoneyComesNearer(t *testing.T) {
	for _, yield := range yields {
		for _, days := range []int{1, 2, 31, 366} {
			for _, periods := range []int{0, 1, 2, 40} {
				var before impl.Range
				for passed := range days + 1 {
					r := impl.DiscountOf(yield, passed, days, periods)
					if r.Low < before.Low || r.High < before.High {
						t.Fatalf("DiscountOf(%d, %d, %d, %d) = %v behind %v", yield, passed, days, periods, r, before)
					}
					before = r
				}
				want := impl.Range{Low: 1000000, High: 1000000}
				if periods > 0 {
					want = impl.DiscountOf(yield, 0, days, periods-1)
				}
				if before != want {
					t.Fatalf("DiscountOf(%d, %d, %d, %d) = %v, want %v", yield, days, days, periods, before, want)
				}
			}
		}
	}
}

func TestP47PricesFallWithTheYield(t *testing.T) {
	eachPriced(func(b impl.Bond, n int) {
		sum := paymentsBehind(b, n)
		before := impl.Range{Low: sum, High: sum}
		if got := impl.PriceOf(b, n, 0); got != before {
			t.Fatalf("PriceOf(%v, %d, 0) = %v, want %d", b, n, got, sum)
		}
		for _, yield := range yields {
			r := impl.PriceOf(b, n, yield)
			if r.Low > before.Low || r.High > before.High || r.Low > r.High {
				t.Fatalf("PriceOf(%v, %d, %d) = %v behind %v", b, n, yield, r, before)
			}
			before = r
		}
	})
}

func TestP48PricesAreKnownWell(t *testing.T) {
	check := func(b impl.Bond, n int, yield int) {
		if r := impl.PriceOf(b, n, yield); r.High-r.Low > 10 || r.Low > r.High {
			t.Fatalf("PriceOf(%v, %d, %d) = %v", b, n, yield, r)
		}
	}
	eachPriced(func(b impl.Bond, n int) {
		for _, yield := range yields {
			check(b, n, yield)
		}
	})
	for yield := 0; yield <= 100000; yield += 7 {
		check(longBonds[0], longBonds[0].Start, yield)
		check(longBonds[1], longBonds[1].Start+100, yield)
	}
}

func TestP49HigherCouponsAreWorthMore(t *testing.T) {
	for _, b := range slices.Concat(dailyBonds, longBonds) {
		for _, n := range runningDays(b) {
			for _, yield := range []int{0, 1, 2500, 33333, 100000} {
				var before impl.Range
				for rate := 0; rate <= 3000; rate += 125 {
					for b.Rate = rate; b.Rate <= min(rate+1, 3000); b.Rate++ {
						r := impl.PriceOf(b, n, yield)
						if r.Low < before.Low || r.High < before.High {
							t.Fatalf("PriceOf(%v, %d, %d) = %v behind %v", b, n, yield, r, before)
						}
						before = r
					}
				}
			}
		}
	}
}

func TestYieldsAreThoseOfAllPrices(t *testing.T) {
	check := func(b impl.Bond, n int) {
		var prices []impl.Range
		for yield := 0; yield <= 100000; yield += 2500 {
			prices = append(prices, impl.PriceOf(b, n, yield))
		}
		for _, dirty := range pricesAround(b, n) {
			least, most := impl.YieldOf(b, n, dirty)
			if wantLeast, wantMost := plainYields(prices, dirty); least != wantLeast || most != wantMost {
				t.Fatalf("YieldOf(%v, %d, %d) = %d, %d, want %d, %d", b, n, dirty, least, most, wantLeast, wantMost)
			}
		}
	}
	eachPriced(check)
}

func TestYieldsByHand(t *testing.T) {
	// The bond is worth 10500 without a yield, from 10473 to 10474 with 2500, from 9567 to 9568 with 97500 and from 9545 to 9546 with 100000.
	b := impl.Bond{Start: day(2020, 1, 15), End: day(2021, 1, 15), Months: 12, Rate: 500}
	for _, x := range []struct{ dirty, least, most int }{
		{10501, -1, 0}, {10500, 0, 0}, {10499, 0, 2500}, {10474, 0, 2500}, {10473, 2500, 5000},
		{9568, 95000, 97500}, {9567, 97500, 100000}, {9547, 97500, 100000}, {9546, 97500, 100000}, {9545, 100000, -1}, {9544, 100000, -1},
		{1, 100000, -1}, {0, 100000, -1}, {-1, 100000, -1}, {extremes[0], 100000, -1}, {extremes[3], -1, 0},
	} {
		if least, most := impl.YieldOf(b, b.Start, x.dirty); least != x.least || most != x.most {
			t.Errorf("YieldOf a price of %d = %d, %d, want %d, %d", x.dirty, least, most, x.least, x.most)
		}
	}
}

func TestP50PricesTellYields(t *testing.T) {
	eachPriced(func(b impl.Bond, n int) {
		for _, dirty := range pricesAround(b, n) {
			least, most := impl.YieldOf(b, n, dirty)
			if least == -1 && most == -1 {
				t.Fatalf("YieldOf(%v, %d, %d) = -1, -1", b, n, dirty)
			}
			if least != -1 && (least%2500 != 0 || least < 0 || least > 100000 || impl.PriceOf(b, n, least).Low < dirty) {
				t.Fatalf("YieldOf(%v, %d, %d) has the first yield %d", b, n, dirty, least)
			}
			if most != -1 && (most%2500 != 0 || most < 0 || most > 100000 || impl.PriceOf(b, n, most).High > dirty || least > most) {
				t.Fatalf("YieldOf(%v, %d, %d) = %d, %d", b, n, dirty, least, most)
			}
		}
	})
}

func TestP51YieldsAreNearEachOther(t *testing.T) {
	eachPriced(func(b impl.Bond, n int) {
		for _, dirty := range pricesAround(b, n) {
			least, most := impl.YieldOf(b, n, dirty)
			if least >= 0 && least < 100000 && impl.PriceOf(b, n, least+2500).Low >= dirty {
				t.Fatalf("YieldOf(%v, %d, %d) has the first yield %d", b, n, dirty, least)
			}
			if least == -1 && impl.PriceOf(b, n, 0).Low >= dirty || most == -1 && impl.PriceOf(b, n, 100000).High <= dirty {
				t.Fatalf("YieldOf(%v, %d, %d) = %d, %d", b, n, dirty, least, most)
			}
			if most > 0 && impl.PriceOf(b, n, most-2500).High <= dirty {
				t.Fatalf("YieldOf(%v, %d, %d) has the second yield %d", b, n, dirty, most)
			}
		}
	})
}

func TestP141WholePeriodsAreFactors(t *testing.T) {
	for _, yield := range yields {
		for _, x := range discountTerms {
			for periods := range 40 {
				r, next := impl.DiscountOf(yield, x[0], x[1], periods), impl.DiscountOf(yield, x[0], x[1], periods+1)
				product, ok := impl.MulRange(next, impl.Range{Low: 1000000 + yield, High: 1000000 + yield})
				if !ok || !meet(product, r) {
					t.Fatalf("DiscountOf(%d, %d, %d, %d) = %v, times 1 plus the yield %v, not %v", yield, x[0], x[1], periods+1, next, product, r)
				}
			}
		}
	}
}

func TestP142NearTheEndABondIsWorthItsLastPayment(t *testing.T) {
	for _, b := range pricedBonds() {
		flows := plainFlows(b)
		last := flows[len(flows)-1].Amount
		for _, yield := range yields {
			r := impl.PriceOf(b, b.End-1, yield)
			if r.High > last || r.Low < last*impl.DiscountOf(yield, 0, 1, 0).Low/1000000 {
				t.Fatalf("PriceOf(%v, %d, %d) = %v, the last payment is %d", b, b.End-1, yield, r, last)
			}
		}
	}
}

func TestP143WithoutAYieldThePriceIsTheSum(t *testing.T) {
	eachPriced(func(b impl.Bond, n int) {
		sum := paymentsBehind(b, n)
		if least, most := impl.YieldOf(b, n, sum); least != 0 || most != 0 {
			t.Fatalf("YieldOf(%v, %d, %d) = %d, %d", b, n, sum, least, most)
		}
	})
}

// randomBond returns a valid bond with any end, number of months, rate and number of periods, whose first period may be
// short or whole.
func randomBond(r *rand.Rand) impl.Bond {
	for {
		b := impl.Bond{End: r.IntN(impl.MaxDay + 1), Months: terms[r.IntN(4)], Rate: r.IntN(impl.MaxRate + 1)}
		b.Start = calendarAddMonths(b.End, -(1+r.IntN(40))*b.Months)
		if r.IntN(3) > 0 {
			b.Start += r.IntN(28 * b.Months)
		}
		if b.Start >= 0 && plainSchedule(b.Start, b.End, b.Months) != nil {
			return b
		}
	}
}

func TestP159EveryPriceOfEveryBondTellsItsYields(t *testing.T) {
	r := rand.New(rand.NewPCG(9, 159))
	both := 0
	for range 3000 {
		b := randomBond(r)
		n := b.Start + r.IntN(b.End-b.Start)
		bounds := impl.PriceOf(b, n, 2500*r.IntN(41))
		for _, dirty := range []int{bounds.Low, bounds.High, bounds.Low - 1, bounds.High + 1, r.IntN(2*paymentsBehind(b, n)) - 100, extremes[r.IntN(4)]} {
			least, most := impl.YieldOf(b, n, dirty)
			if least != -1 && (impl.PriceOf(b, n, least).Low < dirty || least%2500 != 0) || most != -1 && (impl.PriceOf(b, n, most).High > dirty || most%2500 != 0) || most != -1 && least > most {
				t.Fatalf("YieldOf(%v, %d, %d) = %d, %d", b, n, dirty, least, most)
			}
			if (least == -1) != (dirty > paymentsBehind(b, n)) || (most == -1) != (dirty < impl.PriceOf(b, n, 100000).High) {
				t.Fatalf("YieldOf(%v, %d, %d) = %d, %d", b, n, dirty, least, most)
			}
			if least != -1 && most != -1 {
				both++
			}
		}
	}
	if both < 5000 {
		t.Errorf("only %d prices have both yields", both)
	}
}
