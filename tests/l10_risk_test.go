package tests

import (
	"math/big"
	"slices"
	"testing"

	"loop.example/bonddesk/impl"
)

// shockLists are valid shocks.
var shockLists = [][]int{{0}, {1}, {2500}, {-2500}, {100000}, {-100000}, {2500, -2500}, {-100000, 100000}, {3, 2, 1, 40000, 2, 3}, {-1, -2, -3, -4, -5, -100000}, {2500, 2500}, {99999, 1}}

// badShocks returns shocks that are not valid.
func badShocks() [][]int {
	out := [][]int{nil, {}, make([]int, 7), {1, 2, 3, 4, 5, 6, 7}, make([]int, 100), {impl.MaxYield + 1}, {-impl.MaxYield - 1}, {2500, -impl.MaxYield - 1}, {1, 2, 3, 4, 5, impl.MaxYield + 1}}
	for _, x := range extremes {
		out = append(out, []int{x}, []int{0, x}, []int{x, 2500})
	}
	return out
}

// plainLife is LifeOf a valid bond at a day on which it runs.
func plainLife(b impl.Bond, n int) int {
	weighted, total := new(big.Rat), new(big.Rat)
	for _, f := range plainFlows(b) {
		if f.Day > n {
			weighted.Add(weighted, big.NewRat(int64(f.Amount*(f.Day-n)), 1))
			total.Add(total, big.NewRat(int64(f.Amount), 1))
		}
	}
	return roundedDown(weighted.Quo(weighted, total))
}

// plainShock is ShockOf valid arguments, by the high bounds of PriceOf.
func plainShock(b impl.Bond, n int, yield int, shocks []int) int {
	falls := []int{0}
	for _, shock := range shocks {
		shocked := yield + shock
		if shocked < 0 {
			shocked = 0
		} else if shocked > 100000 {
			shocked = 100000
		}
		falls = append(falls, impl.PriceOf(b, n, yield).High-impl.PriceOf(b, n, shocked).High)
	}
	return slices.Max(falls)
}

// checkNoRisk checks that all functions of risks reject a bond and a day.
func checkNoRisk(t *testing.T, b impl.Bond, n int) {
	t.Helper()
	for _, yield := range []int{0, 2500, 97500} {
		if got := impl.RiskOf(b, n, yield); got != (impl.Range{}) {
			t.Errorf("RiskOf(%v, %d, %d) = %v", b, n, yield, got)
		}
		if got := impl.ShockOf(b, n, yield, []int{2500, -2500}); got != -1 {
			t.Errorf("ShockOf(%v, %d, %d) = %d", b, n, yield, got)
		}
	}
	if got := impl.LifeOf(b, n); got != -1 {
		t.Errorf("LifeOf(%v, %d) = %d", b, n, got)
	}
}

func TestShockLimits(t *testing.T) {
	if impl.MaxShocks != 6 {
		t.Errorf("MaxShocks = %d", impl.MaxShocks)
	}
}

func TestRisksOfInvalidBondsAndDays(t *testing.T) {
	for _, b := range badBonds() {
		for _, n := range []int{b.Start, b.Start + 1, b.End - 1, day(2020, 8, 1)} {
			checkNoRisk(t, b, n)
		}
	}
	for _, b := range slices.Concat(dailyBonds, longBonds) {
		for _, n := range append([]int{b.Start - 1, b.End, b.End + 1}, outsideDays...) {
			checkNoRisk(t, b, n)
		}
	}
}

func TestRisksOfInvalidYields(t *testing.T) {
	for _, b := range slices.Concat(dailyBonds, longBonds) {
		for _, n := range runningDays(b) {
			for _, yield := range otherYields {
				if got := impl.ShockOf(b, n, yield, []int{2500, -2500}); got != -1 {
					t.Errorf("ShockOf(%v, %d, %d) = %d", b, n, yield, got)
				}
			}
			// The greatest yield that can rise by a step is 97500.
			for _, yield := range append([]int{97501, 99999, 100000, 102500}, otherYields...) {
				if got := impl.RiskOf(b, n, yield); got != (impl.Range{}) {
					t.Errorf("RiskOf(%v, %d, %d) = %v", b, n, yield, got)
				}
			}
		}
		if got := impl.RiskOf(b, b.Start, 97500); got.High <= 0 {
			t.Errorf("RiskOf(%v, %d, 97500) = %v", b, b.Start, got)
		}
	}
}

func TestShockOfInvalidShocks(t *testing.T) {
	b := impl.Bond{Start: day(2020, 1, 15), End: day(2021, 7, 15), Months: 6, Rate: 400}
	for _, shocks := range badShocks() {
		for _, yield := range []int{0, 2500, 100000} {
			if got := impl.ShockOf(b, b.Start, yield, shocks); got != -1 {
				t.Errorf("ShockOf at %d with %v = %d", yield, shocks, got)
			}
		}
	}
	for _, shocks := range shockLists {
		for _, yield := range []int{0, 2500, 100000} {
			if got := impl.ShockOf(b, b.Start, yield, shocks); got < 0 {
				t.Errorf("ShockOf at %d with %v = %d", yield, shocks, got)
			}
		}
	}
}

func TestRiskIsTheDifferenceOfPrices(t *testing.T) {
	eachPriced(func(b impl.Bond, n int) {
		for _, yield := range []int{0, 1, 2500, 47500, 97499, 97500} {
			x, y := impl.PriceOf(b, n, yield), impl.PriceOf(b, n, yield+2500)
			if got, want := impl.RiskOf(b, n, yield), (impl.Range{Low: x.Low - y.High, High: x.High - y.Low}); got != want {
				t.Fatalf("RiskOf(%v, %d, %d) = %v, want %v", b, n, yield, got, want)
			}
		}
	})
}

func TestRisksByHand(t *testing.T) {
	year := impl.Bond{Start: day(2020, 1, 15), End: day(2021, 1, 15), Months: 12, Rate: 500}
	half := impl.Bond{Start: day(2020, 1, 15), End: day(2021, 1, 15), Months: 6, Rate: 400}
	// 10500 without a yield, and from 10473 to 10474 with 2500.
	if got := impl.RiskOf(year, year.Start, 0); got != (impl.Range{Low: 26, High: 27}) {
		t.Errorf("RiskOf at 0 = %v", got)
	}
	// The day before the end a step is less than the width of the ranges.
	if got := impl.RiskOf(year, year.End-1, 50000); got != (impl.Range{Low: -1, High: 1}) {
		t.Errorf("RiskOf a day before the end = %v", got)
	}
	for _, x := range []struct {
		b       impl.Bond
		n, want int
	}{
		{year, year.Start, 366}, {year, year.End - 1, 1},
		// 200 in 182 days and 10200 in 366 days: 3769600 divided by 10400 is 362.46.
		{half, half.Start, 362}, {half, day(2020, 7, 15), 184}, {half, day(2020, 7, 14), 181}, {half, half.End - 1, 1},
	} {
		if got := impl.LifeOf(x.b, x.n); got != x.want {
			t.Errorf("LifeOf(%v, %v) = %d, want %d", x.b, dateAt(x.n), got, x.want)
		}
	}
	// The high bounds are 10500 at 0, 10474 at 2500, 9568 at 97500 and 9546 at 100000.
	for _, x := range []struct {
		yield  int
		shocks []int
		want   int
	}{
		{0, []int{2500}, 26}, {0, []int{100000, 2500}, 954}, {97500, []int{100000}, 22}, {97500, []int{2501, -100000}, 22}, {100000, []int{1, 100000}, 0},
		{2500, []int{-2501}, 0}, {2500, []int{-100000, 95000}, 906}, {0, []int{0}, 0}, {97500, []int{1, 2500, -1, 0, 2, 3}, 22},
	} {
		if got := impl.ShockOf(year, year.Start, x.yield, x.shocks); got != x.want {
			t.Errorf("ShockOf at %d with %v = %d, want %d", x.yield, x.shocks, got, x.want)
		}
	}
}

func TestLifeIsExact(t *testing.T) {
	eachPriced(func(b impl.Bond, n int) {
		if got, want := impl.LifeOf(b, n), plainLife(b, n); got != want {
			t.Fatalf("LifeOf(%v, %d) = %d, want %d", b, n, got, want)
		}
	})
}

func TestShockIsTheGreatestFall(t *testing.T) {
	for _, b := range slices.Concat(dailyBonds, longBonds) {
		for _, n := range runningDays(b) {
			for _, yield := range yields {
				for _, shocks := range shockLists {
					if got, want := impl.ShockOf(b, n, yield, shocks), plainShock(b, n, yield, shocks); got != want {
						t.Fatalf("ShockOf(%v, %d, %d, %v) = %d, want %d", b, n, yield, shocks, got, want)
					}
				}
			}
		}
	}
}

func TestP52RisksAreFalls(t *testing.T) {
	eachPriced(func(b impl.Bond, n int) {
		for _, yield := range []int{0, 1, 2500, 47500, 97500} {
			r := impl.RiskOf(b, n, yield)
			x, y := impl.PriceOf(b, n, yield), impl.PriceOf(b, n, yield+2500)
			if r.High < 0 || r.Low > r.High {
				t.Fatalf("RiskOf(%v, %d, %d) = %v", b, n, yield, r)
			}
			for _, fall := range []int{x.Low - y.Low, x.Low - y.High, x.High - y.Low, x.High - y.High} {
				if fall < r.Low || fall > r.High {
					t.Fatalf("RiskOf(%v, %d, %d) = %v has not %d", b, n, yield, r, fall)
				}
			}
		}
	})
}

func TestP53FallsBecomeSmaller(t *testing.T) {
	eachPriced(func(b impl.Bond, n int) {
		before := impl.RiskOf(b, n, 0)
		for yield := 2500; yield <= 97500; yield += 2500 {
			r := impl.RiskOf(b, n, yield)
			if r.Low > before.High {
				t.Fatalf("RiskOf(%v, %d, %d) = %v behind %v", b, n, yield, r, before)
			}
			before = r
		}
	})
}

func TestP54LivesAreBetweenThePayments(t *testing.T) {
	eachPriced(func(b impl.Bond, n int) {
		next, ok := impl.NextFlow(b, n)
		if got := impl.LifeOf(b, n); !ok || got < next.Day-n || got > b.End-n {
			t.Fatalf("LifeOf(%v, %d) = %d, the next payment is %v", b, n, got, next)
		}
	})
}

func TestP55WithoutCouponsOnlyTheEndCounts(t *testing.T) {
	eachPriced(func(b impl.Bond, n int) {
		for _, rate := range rates {
			b.Rate = rate
			if got := impl.LifeOf(b, n); got > b.End-n || rate == 0 && got != b.End-n {
				t.Fatalf("LifeOf(%v, %d) = %d of %d", b, n, got, b.End-n)
			}
		}
	})
	b := longBonds[0]
	if got := impl.LifeOf(b, b.Start); got >= b.End-b.Start {
		t.Errorf("LifeOf(%v) = %d is not shorter than %d", b, got, b.End-b.Start)
	}
}

func TestP56MoreShocksAreNotMilder(t *testing.T) {
	for _, b := range slices.Concat(dailyBonds, longBonds) {
		for _, n := range runningDays(b) {
			for _, yield := range []int{0, 1, 2500, 50000, 99999, 100000} {
				var shocks []int
				before := 0
				for _, shock := range []int{-100000, -2500, 0, 1, 2500, 100000} {
					shocks = append(shocks, shock)
					got := impl.ShockOf(b, n, yield, shocks)
					if got < before || shock <= 0 && got != 0 {
						t.Fatalf("ShockOf(%v, %d, %d, %v) = %d behind %d", b, n, yield, shocks, got, before)
					}
					before = got
				}
			}
		}
	}
}

func TestP144ShocksAreFallsOfPrices(t *testing.T) {
	eachPriced(func(b impl.Bond, n int) {
		for _, x := range [][2]int{{0, 1}, {0, 2500}, {0, 100000}, {47500, 2500}, {50000, 50000}, {97500, 2500}, {99999, 1}} {
			want := impl.PriceOf(b, n, x[0]).High - impl.PriceOf(b, n, x[0]+x[1]).High
			if got := impl.ShockOf(b, n, x[0], []int{x[1]}); got != want {
				t.Fatalf("ShockOf(%v, %d, %d, %d) = %d, want %d", b, n, x[0], x[1], got, want)
			}
		}
	})
}

func TestShocksStay(t *testing.T) {
	b := impl.Bond{Start: day(2020, 1, 15), End: day(2021, 7, 15), Months: 6, Rate: 400}
	shocks := []int{5, -100000, 100000, 0, 2500, -1}
	want := slices.Clone(shocks)
	if impl.ShockOf(b, b.Start, 50000, shocks); !slices.Equal(shocks, want) {
		t.Errorf("ShockOf changes its shocks to %v", shocks)
	}
}
