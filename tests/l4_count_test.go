package tests

import (
	"math/big"
	"testing"

	"loop.example/bonddesk/impl"
)

// kinds are the kinds of day counts.
var kinds = []int{impl.CountFixed, impl.CountMoney, impl.CountThirty, impl.CountYear}

// countSpans are numbers of days between two days, around months and years.
var countSpans = []int{0, 1, 2, 27, 28, 29, 30, 31, 32, 58, 59, 60, 61, 89, 90, 91, 92, 180, 364, 365, 366, 367, 730, 731, 1460, 1461, 2500, 3999, 4000}

// plainPart is YearPart of valid arguments, as a number of the library.
func plainPart(kind int, from int, to int) *big.Rat {
	days := int64(to - from)
	a, b := calendarDate(from), calendarDate(to)
	switch kind {
	case impl.CountFixed:
		return big.NewRat(days, 365)
	case impl.CountMoney:
		return big.NewRat(days, 360)
	case impl.CountThirty:
		if a.Day == 31 {
			a.Day = 30
		}
		if b.Day == 31 && a.Day == 30 {
			b.Day = 30
		}
		return big.NewRat(int64(360*(b.Year-a.Year)+30*(b.Month-a.Month)+b.Day-a.Day), 360)
	}
	sum := new(big.Rat)
	for year := a.Year; year <= b.Year; year++ {
		whole := day(year+1, 1, 1) - day(year, 1, 1)
		part := min(to, day(year+1, 1, 1)) - max(from, day(year, 1, 1))
		sum.Add(sum, big.NewRat(int64(part), int64(whole)))
	}
	return sum
}

func TestCountLimits(t *testing.T) {
	if impl.MaxPrincipal != 100000000 || impl.MaxRate != 3000 {
		t.Errorf("limits = %d, %d", impl.MaxPrincipal, impl.MaxRate)
	}
	if got := [4]int{impl.CountFixed, impl.CountMoney, impl.CountThirty, impl.CountYear}; got != [4]int{0, 1, 2, 3} {
		t.Errorf("kinds = %v", got)
	}
}

func TestYearPartIsExact(t *testing.T) {
	for _, from := range someDays() {
		for _, span := range countSpans {
			for _, kind := range kinds {
				if from+span > impl.MaxDay {
					continue
				}
				want, valid := ratioOf(plainPart(kind, from, from+span))
				if got, ok := impl.YearPart(kind, from, from+span); !ok || !valid || got != want {
					t.Fatalf("YearPart(%d, %d, %d) = %v, %v, want %v", kind, from, from+span, got, ok, want)
				}
			}
		}
	}
}

func TestYearPartOfThirtyDays(t *testing.T) {
	for _, x := range []struct {
		from, to, days int
	}{
		{day(2020, 1, 31), day(2020, 3, 31), 60},
		{day(2020, 1, 30), day(2020, 1, 31), 0},
		{day(2020, 1, 29), day(2020, 1, 31), 2},
		{day(2020, 1, 31), day(2020, 2, 1), 1},
		{day(2021, 2, 28), day(2021, 3, 31), 33},
		{day(2020, 2, 29), day(2020, 3, 1), 2},
		{day(2021, 2, 28), day(2021, 3, 1), 3},
		{day(2019, 12, 31), day(2020, 1, 1), 1},
		{day(2019, 12, 30), day(2020, 12, 31), 360},
	} {
		want, _ := impl.MakeRatio(x.days, 360)
		if got, ok := impl.YearPart(impl.CountThirty, x.from, x.to); !ok || got != want {
			t.Errorf("YearPart(%v, %v) = %v, want %d days", dateAt(x.from), dateAt(x.to), got, x.days)
		}
	}
}

func TestYearPartLooksAtLeapYears(t *testing.T) {
	for _, x := range []struct {
		from, to int
		want     impl.Ratio
	}{
		{day(2019, 12, 31), day(2020, 1, 1), impl.Ratio{Num: 1, Den: 365}},
		{day(2020, 1, 1), day(2020, 1, 2), impl.Ratio{Num: 1, Den: 366}},
		{day(2020, 12, 31), day(2021, 1, 1), impl.Ratio{Num: 1, Den: 366}},
		{day(2020, 12, 31), day(2021, 1, 2), impl.Ratio{Num: 731, Den: 133590}},
		{day(2020, 2, 28), day(2020, 3, 1), impl.Ratio{Num: 1, Den: 183}},
		{day(2000, 1, 1), day(2001, 1, 1), impl.Ratio{Num: 1, Den: 1}},
	} {
		if got, ok := impl.YearPart(impl.CountYear, x.from, x.to); !ok || got != x.want {
			t.Errorf("YearPart(%v, %v) = %v, want %v", dateAt(x.from), dateAt(x.to), got, x.want)
		}
	}
}

func TestYearPartOfInvalidArguments(t *testing.T) {
	check := func(kind int, from int, to int) {
		if r, ok := impl.YearPart(kind, from, to); ok || r != (impl.Ratio{}) {
			t.Errorf("YearPart(%d, %d, %d) = %v, %v", kind, from, to, r, ok)
		}
		if got := impl.InterestOf(1000, 100, kind, from, to); got != -1 {
			t.Errorf("InterestOf(1000, 100, %d, %d, %d) = %d", kind, from, to, got)
		}
	}
	for _, kind := range kinds {
		check(kind, 1, 0)
		check(kind, impl.MaxDay, 0)
		check(kind, 0, 4001)
		check(kind, impl.MaxDay-4001, impl.MaxDay)
		for _, n := range outsideDays {
			check(kind, n, n)
			check(kind, n, 10)
			check(kind, impl.MaxDay-10, n)
		}
	}
	for _, kind := range append([]int{-1, 4}, extremes...) {
		check(kind, 5, 5)
		check(kind, 0, 90)
	}
}

func TestP19PartsOfYearsAreNotNegative(t *testing.T) {
	for _, kind := range kinds {
		for _, from := range someDays() {
			before, ok := impl.YearPart(kind, from, from)
			if !ok || before != (impl.Ratio{Num: 0, Den: 1}) {
				t.Fatalf("YearPart(%d, %d, %d) = %v, %v", kind, from, from, before, ok)
			}
			for to := from + 1; to <= min(from+430, impl.MaxDay); to++ {
				part, ok := impl.YearPart(kind, from, to)
				if !ok || impl.CompareRatio(before, part) > 0 {
					t.Fatalf("YearPart(%d, %d, %d) = %v, the day before %v", kind, from, to, part, before)
				}
				before = part
			}
		}
	}
}

func TestP20WholeYearsAreOne(t *testing.T) {
	for year := impl.MinYear; year < impl.MaxYear; year++ {
		for _, kind := range []int{impl.CountYear, impl.CountThirty} {
			if r, ok := impl.YearPart(kind, day(year, 1, 1), day(year+1, 1, 1)); !ok || r != (impl.Ratio{Num: 1, Den: 1}) {
				t.Errorf("YearPart(%d) of %d = %v, %v", kind, year, r, ok)
			}
		}
	}
}

func TestP21DaysAddUp(t *testing.T) {
	for _, kind := range []int{impl.CountFixed, impl.CountMoney, impl.CountYear} {
		for _, from := range someDays() {
			for _, span := range countSpans {
				to := from + span
				if to > impl.MaxDay {
					continue
				}
				whole, _ := impl.YearPart(kind, from, to)
				for _, middle := range []int{from, from + span/3, from + span/2, to} {
					a, _ := impl.YearPart(kind, from, middle)
					b, _ := impl.YearPart(kind, middle, to)
					if sum, ok := impl.AddRatio(a, b); !ok || sum != whole {
						t.Fatalf("YearPart(%d) of %d, %d, %d: %v + %v is not %v", kind, from, middle, to, a, b, whole)
					}
				}
			}
		}
	}
}

// principals are amounts that bear interest.
var principals = []int{0, 1, 2, 3, 49, 50, 51, 9999, 10000, 123457, 1000000, 49999999, 50000000, 99999999, 100000000}

// rates are rates in hundredths of a percent.
var rates = []int{0, 1, 2, 399, 400, 1234, 2999, 3000}

// interestDays are days with different spans between them.
var interestDays = [][2]int{{0, 0}, {0, 1}, {0, 90}, {day(2019, 12, 31), day(2020, 1, 2)}, {day(2020, 1, 31), day(2020, 3, 31)}, {day(2020, 2, 29), day(2021, 2, 28)}, {17, 3900}, {365, 4365}, {day(1995, 7, 3), day(1995, 7, 3) + 4000}, {impl.MaxDay - 4000, impl.MaxDay}, {impl.MaxDay, impl.MaxDay}}

func TestInterestIsRounded(t *testing.T) {
	for _, x := range interestDays {
		for _, kind := range kinds {
			for _, amount := range principals {
				for _, rate := range rates {
					want := new(big.Rat).Mul(plainPart(kind, x[0], x[1]), big.NewRat(int64(amount*rate), 10000))
					if got := impl.InterestOf(amount, rate, kind, x[0], x[1]); got != rounded(want) {
						t.Fatalf("InterestOf(%d, %d, %d, %v) = %d, want %v", amount, rate, kind, x, got, want)
					}
				}
			}
		}
	}
}

func TestInterestOfAHalfIsRoundedUp(t *testing.T) {
	for _, x := range []struct {
		amount, rate, to, want int
	}{{5000, 1, 360, 1}, {4999, 1, 360, 0}, {15000, 1, 360, 2}, {25000, 1, 360, 3}, {10000, 2, 90, 1}, {9999, 2, 90, 0}} {
		if got := impl.InterestOf(x.amount, x.rate, impl.CountMoney, 0, x.to); got != x.want {
			t.Errorf("InterestOf(%d, %d, CountMoney, 0, %d) = %d, want %d", x.amount, x.rate, x.to, got, x.want)
		}
	}
}

func TestInterestOfInvalidArguments(t *testing.T) {
	for _, kind := range kinds {
		for _, amount := range append([]int{-1, impl.MaxPrincipal + 1}, extremes...) {
			for _, rate := range append([]int{0, 1}, extremes...) {
				if got := impl.InterestOf(amount, rate, kind, 0, 90); got != -1 {
					t.Errorf("InterestOf(%d, %d, %d, 0, 90) = %d", amount, rate, kind, got)
				}
			}
		}
		for _, rate := range append([]int{-1, impl.MaxRate + 1}, extremes...) {
			for _, amount := range []int{0, 1000, impl.MaxPrincipal} {
				if got := impl.InterestOf(amount, rate, kind, 0, 90); got != -1 {
					t.Errorf("InterestOf(%d, %d, %d, 0, 90) = %d", amount, rate, kind, got)
				}
			}
		}
	}
}

func TestP22InterestGrows(t *testing.T) {
	for _, x := range interestDays {
		for _, kind := range kinds {
			for _, amount := range principals {
				before := 0
				for i, rate := range rates {
					got := impl.InterestOf(amount, rate, kind, x[0], x[1])
					if i == 0 && got != 0 || got < before {
						t.Fatalf("InterestOf(%d, %d, %d, %v) = %d behind %d", amount, rate, kind, x, got, before)
					}
					before = got
				}
			}
			for _, rate := range rates {
				before := 0
				for _, amount := range principals {
					got := impl.InterestOf(amount, rate, kind, x[0], x[1])
					if got < before {
						t.Fatalf("InterestOf(%d, %d, %d, %v) = %d behind %d", amount, rate, kind, x, got, before)
					}
					before = got
				}
			}
		}
	}
}

func TestP23TwiceTheMoneyHasTwiceTheInterest(t *testing.T) {
	for _, x := range interestDays {
		for _, kind := range kinds {
			for _, rate := range rates {
				for _, amount := range principals {
					if 2*amount > impl.MaxPrincipal {
						continue
					}
					once, twice := impl.InterestOf(amount, rate, kind, x[0], x[1]), impl.InterestOf(2*amount, rate, kind, x[0], x[1])
					if once < 0 || twice-2*once > 1 || twice-2*once < -1 {
						t.Fatalf("InterestOf(%d, %d, %d, %v) = %d, twice as much %d", amount, rate, kind, x, once, twice)
					}
				}
			}
		}
	}
}

func TestP133MoneyYearsAreShorter(t *testing.T) {
	for _, from := range someDays() {
		for _, span := range countSpans {
			if from+span > impl.MaxDay {
				continue
			}
			money, _ := impl.YearPart(impl.CountMoney, from, from+span)
			fixed, _ := impl.YearPart(impl.CountFixed, from, from+span)
			if got := impl.CompareRatio(money, fixed); got != sign(span) {
				t.Fatalf("YearPart of %d days: CountMoney %v, CountFixed %v", span, money, fixed)
			}
		}
	}
}
