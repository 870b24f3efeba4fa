package tests

import (
	"math/big"
	"slices"
	"testing"

	"loop.example/bonddesk/impl"
)

// cleanPrices are prices within the limits.
var cleanPrices = []int{0, 1, 99, 9900, 10000, 12345, 49999, 50000}

// dailyBonds are bonds with short and whole first periods, whose days are all looked at.
var dailyBonds = []impl.Bond{
	{Start: day(2020, 1, 15), End: day(2021, 7, 15), Months: 6, Rate: 400},
	{Start: day(2020, 3, 1), End: day(2021, 1, 15), Months: 6, Rate: 399},
	{Start: day(2023, 2, 10), End: day(2023, 5, 31), Months: 1, Rate: 3000},
	{Start: day(2024, 2, 28), End: day(2025, 5, 31), Months: 3, Rate: 1234},
	{Start: 10, End: 59, Months: 6, Rate: 777},
	{Start: 0, End: 1, Months: 1, Rate: 3000},
	{Start: day(2019, 12, 31), End: day(2024, 2, 29), Months: 12, Rate: 1},
	{Start: day(2086, 4, 30), End: impl.MaxDay, Months: 12, Rate: 3000},
	{Start: day(2030, 6, 30), End: day(2032, 6, 30), Months: 12, Rate: 0},
}

// plainAccrued is AccruedOf a valid bond with these periods.
func plainAccrued(b impl.Bond, periods []impl.Period, n int) int {
	for _, p := range periods {
		if p.From <= n && n < p.To {
			return rounded(big.NewRat(int64(plainCoupon(b, p)*(n-p.From)), int64(p.To-p.From)))
		}
	}
	return -1
}

func TestPriceLimits(t *testing.T) {
	if impl.MaxPrice != 50000 {
		t.Errorf("MaxPrice = %d", impl.MaxPrice)
	}
}

func TestAccruedIsExact(t *testing.T) {
	check := func(b impl.Bond, days []int) {
		periods := plainSchedule(b.Start, b.End, b.Months)
		for _, n := range days {
			if got, want := impl.AccruedOf(b, n), plainAccrued(b, periods, n); got != want {
				t.Fatalf("AccruedOf(%v, %d) = %d, want %d", b, n, got, want)
			}
		}
	}
	for _, b := range someBonds() {
		check(b, daysAround(b))
	}
	for _, b := range dailyBonds {
		check(b, spaced(b.Start-3, b.End+3, 1))
	}
}

func TestAccruedByHand(t *testing.T) {
	short := impl.Bond{Start: day(2023, 2, 10), End: day(2023, 3, 31), Months: 1, Rate: 1200}
	small := impl.Bond{Start: day(2020, 6, 1), End: day(2020, 7, 1), Months: 1, Rate: 6}
	for _, x := range []struct {
		b       impl.Bond
		n, want int
	}{
		// The first coupon is 58 for 18 days.
		{short, day(2023, 2, 9), -1}, {short, day(2023, 2, 10), 0}, {short, day(2023, 2, 19), 29}, {short, day(2023, 2, 27), 55},
		{short, day(2023, 2, 28), 0}, {short, day(2023, 3, 1), 3}, {short, day(2023, 3, 30), 97}, {short, day(2023, 3, 31), -1},
		// Half of a coupon of 1, which is itself rounded.
		{small, day(2020, 6, 15), 0}, {small, day(2020, 6, 16), 1}, {small, day(2020, 6, 30), 1},
	} {
		if got := impl.AccruedOf(x.b, x.n); got != x.want {
			t.Errorf("AccruedOf(%v, %v) = %d, want %d", x.b, dateAt(x.n), got, x.want)
		}
	}
}

func TestAccruedOfInvalidArguments(t *testing.T) {
	check := func(b impl.Bond, n int) {
		t.Helper()
		if got := impl.AccruedOf(b, n); got != -1 {
			t.Errorf("AccruedOf(%v, %d) = %d", b, n, got)
		}
		for _, price := range append([]int{-1, 0, 9900, impl.MaxPrice}, extremes...) {
			if got := impl.DirtyOf(b, n, price); got != -1 {
				t.Errorf("DirtyOf(%v, %d, %d) = %d", b, n, price, got)
			}
			if got, ok := impl.CleanOf(b, n, price); ok || got != 0 {
				t.Errorf("CleanOf(%v, %d, %d) = %d, %v", b, n, price, got, ok)
			}
		}
	}
	for _, b := range badBonds() {
		for _, n := range []int{b.Start, b.Start + 1, b.End - 1, day(2020, 8, 1)} {
			check(b, n)
		}
	}
	for _, b := range dailyBonds {
		for _, n := range append([]int{b.Start - 1, b.End, b.End + 1}, outsideDays...) {
			check(b, n)
		}
	}
}

func TestP34InterestAccruesFromZeroToTheCoupon(t *testing.T) {
	for _, b := range dailyBonds {
		coupons := couponsOf(b)
		for i, p := range impl.ScheduleOf(b.Start, b.End, b.Months) {
			before := 0
			for n := p.From; n < p.To; n++ {
				got := impl.AccruedOf(b, n)
				if n == p.From && got != 0 || got < before || got > coupons[i] {
					t.Fatalf("AccruedOf(%v, %d) = %d behind %d, with the coupon %d", b, n, got, before, coupons[i])
				}
				before = got
			}
		}
	}
}

func TestDirtyIsCleanAndAccrued(t *testing.T) {
	for _, b := range dailyBonds {
		periods := plainSchedule(b.Start, b.End, b.Months)
		for n := b.Start; n < b.End; n++ {
			accrued := plainAccrued(b, periods, n)
			for _, clean := range cleanPrices {
				if got := impl.DirtyOf(b, n, clean); got != clean+accrued {
					t.Fatalf("DirtyOf(%v, %d, %d) = %d", b, n, clean, got)
				}
			}
			for _, clean := range append([]int{-1, impl.MaxPrice + 1}, extremes...) {
				if got := impl.DirtyOf(b, n, clean); got != -1 {
					t.Fatalf("DirtyOf(%v, %d, %d) = %d", b, n, clean, got)
				}
			}
		}
	}
}

func TestP35PricesCanBeCleaned(t *testing.T) {
	for _, b := range dailyBonds {
		for n := b.Start; n < b.End; n++ {
			for _, clean := range cleanPrices {
				if got, ok := impl.CleanOf(b, n, impl.DirtyOf(b, n, clean)); !ok || got != clean {
					t.Fatalf("CleanOf(%v, %d) of DirtyOf %d = %d, %v", b, n, clean, got, ok)
				}
			}
		}
	}
}

func TestP36CleanPricesLeadBack(t *testing.T) {
	for _, b := range dailyBonds {
		periods := plainSchedule(b.Start, b.End, b.Months)
		for n := b.Start; n < b.End; n++ {
			accrued := plainAccrued(b, periods, n)
			for _, dirty := range append([]int{-1, 0, 1, accrued - 1, accrued, accrued + 1, 10000, 50000, 50000 + accrued, 50001 + accrued}, extremes...) {
				clean, ok := impl.CleanOf(b, n, dirty)
				if valid := dirty >= accrued && dirty <= 50000+accrued; ok != valid || !ok && clean != 0 {
					t.Fatalf("CleanOf(%v, %d, %d) = %d, %v", b, n, dirty, clean, ok)
				}
				if ok && impl.DirtyOf(b, n, clean) != dirty {
					t.Fatalf("DirtyOf(%v, %d) of CleanOf %d = %d", b, n, dirty, impl.DirtyOf(b, n, clean))
				}
			}
		}
	}
}

func TestP37TheNextPaymentIsTheNearestOne(t *testing.T) {
	for _, b := range someBonds() {
		list := plainFlows(b)
		for _, n := range daysAround(b) {
			got, ok := impl.NextFlow(b, n)
			i := slices.IndexFunc(list, func(f impl.Flow) bool { return f.Day > n })
			if i < 0 {
				if ok || got != (impl.Flow{}) {
					t.Fatalf("NextFlow(%v, %d) = %v, %v", b, n, got, ok)
				}
			} else if !ok || got != list[i] || got != impl.FlowsAfter(b, n)[0] {
				t.Fatalf("NextFlow(%v, %d) = %v, %v, want %v", b, n, got, ok, list[i])
			}
		}
	}
}

func TestNextFlowOfInvalidBonds(t *testing.T) {
	for _, b := range badBonds() {
		for _, n := range append([]int{b.Start, b.Start - 1, b.End - 1, day(2020, 8, 1)}, outsideDays...) {
			if got, ok := impl.NextFlow(b, n); ok || got != (impl.Flow{}) {
				t.Errorf("NextFlow(%v, %d) = %v, %v", b, n, got, ok)
			}
		}
	}
}

func TestP137HigherRatesAccrueMore(t *testing.T) {
	for _, b := range dailyBonds {
		for n := b.Start; n < b.End; n++ {
			before := 0
			for i, rate := range rates {
				b.Rate = rate
				got := impl.AccruedOf(b, n)
				if i == 0 && got != 0 || got < before {
					t.Fatalf("AccruedOf(%v, %d) = %d behind %d", b, n, got, before)
				}
				before = got
			}
		}
	}
}
