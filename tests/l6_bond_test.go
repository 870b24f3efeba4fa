package tests

import (
	"math/big"
	"slices"
	"testing"

	"loop.example/bonddesk/impl"
)

// someBonds returns valid bonds with short and whole first periods, and rates that take turns.
func someBonds() []impl.Bond {
	var out []impl.Bond
	eachSchedule(func(start int, end int, months int, list []impl.Period) {
		out = append(out, impl.Bond{Start: start, End: end, Months: months, Rate: rates[len(out)%len(rates)]})
	})
	return out
}

// badBonds returns bonds that are not valid.
func badBonds() []impl.Bond {
	good := impl.Bond{Start: day(2020, 3, 1), End: day(2021, 1, 15), Months: 6, Rate: 400}
	out := []impl.Bond{{}, {Start: good.Start, End: good.Start, Months: 6}, {Start: good.End, End: good.Start, Months: 6, Rate: 400}, {Rate: 400}, {End: 400}}
	for _, x := range outsideDays {
		out = append(out, impl.Bond{Start: x, End: good.End, Months: 6, Rate: 400}, impl.Bond{Start: good.Start, End: x, Months: 6, Rate: 400}, impl.Bond{Start: x, End: x, Months: 6, Rate: 400})
	}
	for _, x := range otherTerms {
		out = append(out, impl.Bond{Start: good.Start, End: good.End, Months: x, Rate: 400})
	}
	for _, x := range append([]int{-1, impl.MaxRate + 1, -400}, extremes...) {
		out = append(out, impl.Bond{Start: good.Start, End: good.End, Months: 6, Rate: x})
	}
	for _, months := range terms {
		end := day(2085, 5, 31)
		out = append(out, impl.Bond{Start: calendarAddMonths(end, -40*months) - 1, End: end, Months: months, Rate: 400}, impl.Bond{Start: 0, End: impl.MaxDay, Months: months})
	}
	return out
}

// plainCoupon is what a valid bond pays for one of its periods, by the library's calendar and fractions.
func plainCoupon(b impl.Bond, p impl.Period) int {
	whole := rounded(big.NewRat(int64(10000*b.Rate*b.Months), 120000))
	if p.Whole {
		return whole
	}
	from := calendarAddMonths(p.To, -b.Months)
	if from == -1 {
		from = p.From
	}
	return rounded(big.NewRat(int64(whole*(p.To-p.From)), int64(p.To-from)))
}

// plainFlows is FlowsOf a valid bond.
func plainFlows(b impl.Bond) []impl.Flow {
	var out []impl.Flow
	for _, p := range plainSchedule(b.Start, b.End, b.Months) {
		out = append(out, impl.Flow{Day: p.To, Amount: plainCoupon(b, p)})
	}
	out[len(out)-1].Amount += 10000
	return out
}

// couponsOf returns the payments of a bond without its face value.
func couponsOf(b impl.Bond) []int {
	var out []int
	for _, f := range impl.FlowsOf(b) {
		out = append(out, f.Amount)
	}
	if len(out) > 0 {
		out[len(out)-1] -= impl.Face
	}
	return out
}

// daysAround returns days at and around the ends of periods of a bond, of long bonds only of some, and days outside of it.
func daysAround(b impl.Bond) []int {
	out := []int{b.Start - 1, b.Start, b.Start + 1}
	list := impl.FlowsOf(b)
	for i, f := range list {
		if i < 3 || i >= len(list)-3 || i%9 == 0 {
			out = append(out, f.Day-1, f.Day, f.Day+1)
		}
	}
	return append(out, outsideDays...)
}

func TestBondConstants(t *testing.T) {
	if impl.Face != 10000 {
		t.Errorf("Face = %d", impl.Face)
	}
}

func TestFlowsAreExact(t *testing.T) {
	for _, b := range someBonds() {
		if got, want := impl.FlowsOf(b), plainFlows(b); !slices.Equal(got, want) {
			t.Fatalf("FlowsOf(%v) = %v, want %v", b, got, want)
		}
	}
}

func TestFlowsOfEveryRateAndStart(t *testing.T) {
	for _, end := range []int{day(1990, 8, 31), day(2000, 8, 31), day(2001, 8, 30)} {
		for _, months := range terms {
			for start := max(0, end-400); start < end; start += 3 {
				b := impl.Bond{Start: start, End: end, Months: months, Rate: (start * 7) % 3001}
				if got, want := impl.FlowsOf(b), plainFlows(b); !slices.Equal(got, want) {
					t.Fatalf("FlowsOf(%v) = %v, want %v", b, got, want)
				}
			}
			for rate := range 3001 {
				b := impl.Bond{Start: end - 45, End: end, Months: months, Rate: rate}
				if got, want := impl.FlowsOf(b), plainFlows(b); !slices.Equal(got, want) {
					t.Fatalf("FlowsOf(%v) = %v, want %v", b, got, want)
				}
			}
		}
	}
}

func TestFlowsByHand(t *testing.T) {
	for _, x := range []struct {
		name string
		b    impl.Bond
		want []impl.Flow
	}{
		{"all periods whole", impl.Bond{Start: day(2020, 1, 15), End: day(2021, 1, 15), Months: 6, Rate: 400},
			[]impl.Flow{{Day: day(2020, 7, 15), Amount: 200}, {Day: day(2021, 1, 15), Amount: 10200}}},
		{"a short period is a part of the month before its own end", impl.Bond{Start: day(2023, 2, 10), End: day(2023, 3, 31), Months: 1, Rate: 1200},
			[]impl.Flow{{Day: day(2023, 2, 28), Amount: 58}, {Day: day(2023, 3, 31), Amount: 10100}}},
		{"a period of one day", impl.Bond{Start: day(2024, 2, 28), End: day(2024, 5, 31), Months: 3, Rate: 3000},
			[]impl.Flow{{Day: day(2024, 2, 29), Amount: 8}, {Day: day(2024, 5, 31), Amount: 10750}}},
		{"no day before the first one", impl.Bond{Start: 10, End: 59, Months: 6, Rate: 400}, []impl.Flow{{Day: 59, Amount: 10200}}},
		{"no day before the first one, then whole periods", impl.Bond{Start: 10, End: day(1990, 12, 15), Months: 6, Rate: 400},
			[]impl.Flow{{Day: day(1990, 6, 15), Amount: 200}, {Day: day(1990, 12, 15), Amount: 10200}}},
		{"just a day before a short period", impl.Bond{Start: 1, End: day(1990, 7, 1), Months: 6, Rate: 400}, []impl.Flow{{Day: day(1990, 7, 1), Amount: 10199}}},
		{"a half is rounded up", impl.Bond{Start: day(2020, 1, 1), End: day(2021, 1, 1), Months: 6, Rate: 1},
			[]impl.Flow{{Day: day(2020, 7, 1), Amount: 1}, {Day: day(2021, 1, 1), Amount: 10001}}},
		{"less than a half is rounded down", impl.Bond{Start: day(2020, 6, 1), End: day(2020, 8, 1), Months: 1, Rate: 5},
			[]impl.Flow{{Day: day(2020, 7, 1), Amount: 0}, {Day: day(2020, 8, 1), Amount: 10000}}},
		{"a part of a rounded coupon", impl.Bond{Start: day(2020, 4, 1), End: day(2020, 7, 1), Months: 6, Rate: 1}, []impl.Flow{{Day: day(2020, 7, 1), Amount: 10001}}},
		{"less than a half of it", impl.Bond{Start: day(2020, 4, 2), End: day(2020, 7, 1), Months: 6, Rate: 1}, []impl.Flow{{Day: day(2020, 7, 1), Amount: 10000}}},
		{"the largest rate", impl.Bond{Start: day(2020, 7, 1), End: day(2021, 7, 1), Months: 12, Rate: 3000}, []impl.Flow{{Day: day(2021, 7, 1), Amount: 13000}}},
	} {
		if got := impl.FlowsOf(x.b); !slices.Equal(got, x.want) {
			t.Errorf("%s: FlowsOf(%v) = %v, want %v", x.name, x.b, got, x.want)
		}
	}
}

func TestFunctionsOfInvalidBonds(t *testing.T) {
	for _, b := range badBonds() {
		if impl.ValidBond(b) {
			t.Errorf("%v is valid", b)
		}
		if list := impl.FlowsOf(b); len(list) != 0 {
			t.Errorf("FlowsOf(%v) = %v", b, list)
		}
		if n := impl.TotalOf(b); n != -1 {
			t.Errorf("TotalOf(%v) = %d", b, n)
		}
		for _, n := range append([]int{b.Start, b.Start + 1, b.End - 1, b.End, day(2020, 8, 1), 0}, outsideDays...) {
			if list := impl.FlowsAfter(b, n); len(list) != 0 {
				t.Errorf("FlowsAfter(%v, %d) = %v", b, n, list)
			}
		}
	}
}

func TestValidBondsAtTheLimits(t *testing.T) {
	for _, months := range terms {
		end := day(2085, 5, 31)
		start := calendarAddMonths(end, -40*months)
		for _, rate := range []int{0, impl.MaxRate} {
			if b := (impl.Bond{Start: start, End: end, Months: months, Rate: rate}); !impl.ValidBond(b) || len(impl.FlowsOf(b)) != 40 {
				t.Errorf("%v is not valid, or has not 40 payments", b)
			}
			if b := (impl.Bond{Start: 0, End: 1, Months: months, Rate: rate}); !impl.ValidBond(b) {
				t.Errorf("%v is not valid", b)
			}
			if b := (impl.Bond{Start: impl.MaxDay - 1, End: impl.MaxDay, Months: months, Rate: rate}); !impl.ValidBond(b) {
				t.Errorf("%v is not valid", b)
			}
		}
	}
}

func TestP28BondsHavePeriods(t *testing.T) {
	for _, b := range append(badBonds(), someBonds()...) {
		flows := impl.FlowsOf(b)
		if impl.ValidBond(b) != (len(flows) > 0) {
			t.Fatalf("ValidBond(%v) = %v, FlowsOf = %v", b, impl.ValidBond(b), flows)
		}
		if periods := impl.ScheduleOf(b.Start, b.End, b.Months); len(flows) > 0 && len(flows) != len(periods) {
			t.Fatalf("FlowsOf(%v) = %v, ScheduleOf %v", b, flows, periods)
		}
	}
	for _, b := range someBonds() {
		if !impl.ValidBond(b) {
			t.Fatalf("%v is not valid", b)
		}
	}
}

func TestP29BondsAreRepaid(t *testing.T) {
	for _, b := range someBonds() {
		list := impl.FlowsOf(b)
		before := b.Start
		for _, f := range list {
			if f.Amount < 0 || f.Day <= before {
				t.Fatalf("FlowsOf(%v) = %v", b, list)
			}
			before = f.Day
		}
		if last := list[len(list)-1]; last.Day != b.End || last.Amount < 10000 {
			t.Fatalf("FlowsOf(%v) = %v", b, list)
		}
	}
}

func TestP30WholePeriodsPayTheSame(t *testing.T) {
	for _, b := range someBonds() {
		coupons, periods := couponsOf(b), impl.ScheduleOf(b.Start, b.End, b.Months)
		want := rounded(big.NewRat(int64(b.Rate*b.Months), 12))
		for i, n := range coupons {
			if periods[i].Whole && n != want || i > 0 && n != coupons[len(coupons)-1] {
				t.Fatalf("FlowsOf(%v) has the coupons %v, want %d", b, coupons, want)
			}
		}
	}
}

func TestP31HigherRatesPayMore(t *testing.T) {
	for _, b := range someBonds() {
		b.Rate = 0
		before := couponsOf(b)
		if slices.Max(before) != 0 || slices.Min(before) != 0 {
			t.Fatalf("FlowsOf(%v) has the coupons %v", b, before)
		}
		for _, rate := range []int{1, 2, 3, 400, 401, 2999, 3000} {
			b.Rate = rate
			coupons := couponsOf(b)
			for i := range coupons {
				if coupons[i] < before[i] {
					t.Fatalf("FlowsOf(%v) has the coupons %v, before %v", b, coupons, before)
				}
			}
			before = coupons
		}
	}
}

func TestP32LaterDaysHaveFewerPayments(t *testing.T) {
	for _, b := range someBonds() {
		list := plainFlows(b)
		for _, n := range daysAround(b) {
			first := 0
			for first < len(list) && list[first].Day <= n {
				first++
			}
			if got := impl.FlowsAfter(b, n); !slices.Equal(got, list[first:]) {
				t.Fatalf("FlowsAfter(%v, %d) = %v, want %v", b, n, got, list[first:])
			}
		}
	}
}

func TestP33TotalsAreSums(t *testing.T) {
	for _, b := range someBonds() {
		want := 0
		for _, f := range plainFlows(b) {
			want += f.Amount
		}
		if got := impl.TotalOf(b); got != want || got < 10000 {
			t.Fatalf("TotalOf(%v) = %d, want %d", b, got, want)
		}
	}
}

func TestP136BehindTheEndNothingIsPaid(t *testing.T) {
	for _, b := range someBonds() {
		for _, n := range append([]int{b.End, b.End + 1}, extremes[2:]...) {
			if got := impl.FlowsAfter(b, n); len(got) != 0 {
				t.Fatalf("FlowsAfter(%v, %d) = %v", b, n, got)
			}
		}
		for _, n := range append([]int{b.Start, b.Start - 1, -1}, extremes[:2]...) {
			if got := impl.FlowsAfter(b, n); len(got) == 0 || !slices.Equal(got, impl.FlowsOf(b)) {
				t.Fatalf("FlowsAfter(%v, %d) = %v", b, n, got)
			}
		}
	}
}

func TestFlowsShareNothing(t *testing.T) {
	b := impl.Bond{Start: day(2020, 3, 1), End: day(2021, 1, 15), Months: 6, Rate: 400}
	want := plainFlows(b)
	for _, list := range [][]impl.Flow{impl.FlowsOf(b), impl.FlowsAfter(b, b.Start), impl.FlowsAfter(b, want[0].Day)} {
		clear(list[:cap(list)])
		if got := impl.FlowsOf(b); !slices.Equal(got, want) {
			t.Errorf("FlowsOf behind a change = %v", got)
		}
		if got := impl.FlowsAfter(b, b.Start); !slices.Equal(got, want) {
			t.Errorf("FlowsAfter behind a change = %v", got)
		}
	}
}
