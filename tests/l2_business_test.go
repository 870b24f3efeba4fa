package tests

import (
	"slices"
	"testing"
	"time"

	"loop.example/bonddesk/impl"
)

// businessRules are the rules by which a day becomes a business day.
var businessRules = []int{impl.AdjustNext, impl.AdjustLast, impl.AdjustMonth}

// calendars returns valid holidays: none, a few, and as many as are allowed, at both ends and in between.
func calendars() map[string][]int {
	return map[string][]int{
		"nil":          nil,
		"empty":        {},
		"first":        {0},
		"last":         {impl.MaxDay},
		"one":          {10957},
		"weekend":      {5, 6, 10960, 10961, 10962},
		"turn of year": {day(1999, 12, 31), day(2000, 1, 3), day(2000, 1, 4)},
		"ends of months": {day(2020, 1, 31), day(2020, 2, 28), day(2020, 2, 29), day(2020, 3, 31), day(2020, 4, 1),
			day(2020, 4, 30), day(2020, 5, 1)},
		"twelve at first": {0, 1, 2, 3, 4, 7, 8, 9, 10, 11, 14, 15},
		"twelve at last": {impl.MaxDay - 15, impl.MaxDay - 12, impl.MaxDay - 11, impl.MaxDay - 10, impl.MaxDay - 9, impl.MaxDay - 8,
			impl.MaxDay - 5, impl.MaxDay - 4, impl.MaxDay - 3, impl.MaxDay - 2, impl.MaxDay - 1, impl.MaxDay},
		"twelve in a month": {day(2021, 3, 15), day(2021, 3, 16), day(2021, 3, 17), day(2021, 3, 18), day(2021, 3, 19), day(2021, 3, 22),
			day(2021, 3, 23), day(2021, 3, 24), day(2021, 3, 25), day(2021, 3, 26), day(2021, 3, 29), day(2021, 3, 30)},
	}
}

// badCalendars returns holidays that are not valid.
func badCalendars() map[string][]int {
	return map[string][]int{
		"equal":           {5, 5},
		"falling":         {7, 6},
		"falling later":   {1, 2, 9, 8},
		"falling at last": {1, 2, 8, 9, 3},
		"thirteen":        spaced(20000, 20012, 1),
		"no day":          {-1},
		"behind all days": {impl.MaxDay + 1},
		"no day and one":  {-1, 4},
		"one and no day":  {4, impl.MaxDay + 1},
	}
}

// plainBusiness is IsBusiness by the library's calendar, for valid holidays.
func plainBusiness(h []int, n int) bool {
	if n < 0 || n > impl.MaxDay || slices.Contains(h, n) {
		return false
	}
	w := time.Date(1990, 1, 1+n, 0, 0, 0, 0, time.UTC).Weekday()
	return w != time.Saturday && w != time.Sunday
}

// plainTable tells of each day whether it is a business day.
func plainTable(h []int) []bool {
	out := make([]bool, impl.MaxDay+1)
	for n := range out {
		out[n] = plainBusiness(h, n)
	}
	return out
}

// plainSeek returns the nearest business day from a day on in a direction, -1 for none.
func plainSeek(open []bool, n int, step int) int {
	for n >= 0 && n < len(open) {
		if open[n] {
			return n
		}
		n += step
	}
	return -1
}

// plainAdjust is AdjustDay for valid arguments.
func plainAdjust(open []bool, n int, rule int) int {
	next, last := plainSeek(open, n, 1), plainSeek(open, n, -1)
	switch rule {
	case impl.AdjustNext:
		return next
	case impl.AdjustLast:
		return last
	case impl.AdjustMonth:
		if next >= 0 && calendarDate(next).Month == calendarDate(n).Month {
			return next
		}
		return last
	}
	return n
}

func TestBusinessLimits(t *testing.T) {
	if got := [3]int{impl.MaxHolidays, impl.MaxLag, impl.MaxSpan}; got != [3]int{12, 30, 4000} {
		t.Errorf("limits = %v", got)
	}
	if got := [4]int{impl.AdjustNone, impl.AdjustNext, impl.AdjustLast, impl.AdjustMonth}; got != [4]int{0, 1, 2, 3} {
		t.Errorf("rules = %v", got)
	}
}

func TestP7WeeksHaveSevenDays(t *testing.T) {
	if impl.WeekdayOf(0) != 0 || impl.WeekdayOf(day(2000, 1, 1)) != 5 || impl.WeekdayOf(impl.MaxDay) != 5 {
		t.Error("WeekdayOf the first day, a Saturday, or the last day")
	}
	for _, n := range allDays() {
		w := impl.WeekdayOf(n)
		if w < 0 || w > 6 {
			t.Fatalf("WeekdayOf(%d) = %d", n, w)
		}
		if n+7 <= impl.MaxDay && impl.WeekdayOf(n+7) != w {
			t.Fatalf("WeekdayOf(%d) = %d, and 7 days later %d", n, w, impl.WeekdayOf(n+7))
		}
		if n < impl.MaxDay && impl.WeekdayOf(n+1) != (w+1)%7 {
			t.Fatalf("WeekdayOf(%d) = %d, and the day after %d", n, w, impl.WeekdayOf(n+1))
		}
	}
}

func TestWeekdayOfOtherNumbers(t *testing.T) {
	for _, n := range outsideDays {
		if got := impl.WeekdayOf(n); got != -1 {
			t.Errorf("WeekdayOf(%d) = %d", n, got)
		}
	}
}

func TestP8HolidaysAreNoBusinessDays(t *testing.T) {
	for name, h := range calendars() {
		for _, n := range allDays() {
			w := impl.WeekdayOf(n)
			want := w != 5 && w != 6 && !slices.Contains(h, n)
			if impl.IsBusiness(h, n) != want || plainBusiness(h, n) != want {
				t.Fatalf("%s: IsBusiness(%d) = %v", name, n, impl.IsBusiness(h, n))
			}
		}
	}
}

func TestIsBusinessOfInvalidArguments(t *testing.T) {
	for name, h := range calendars() {
		for _, n := range outsideDays {
			if impl.IsBusiness(h, n) {
				t.Errorf("%s: IsBusiness(%d)", name, n)
			}
		}
	}
	for name, h := range badCalendars() {
		for _, n := range []int{0, 10, 10957, 20001, 30000, impl.MaxDay - 1} {
			if impl.IsBusiness(h, n) {
				t.Errorf("%s: IsBusiness(%d)", name, n)
			}
		}
	}
}

func TestAdjustDayOfEveryDay(t *testing.T) {
	for name, h := range calendars() {
		open := plainTable(h)
		for _, n := range allDays() {
			for rule := impl.AdjustNone; rule <= impl.AdjustMonth; rule++ {
				if got, want := impl.AdjustDay(h, n, rule), plainAdjust(open, n, rule); got != want {
					t.Fatalf("%s: AdjustDay(%d, %d) = %d, want %d", name, n, rule, got, want)
				}
			}
		}
	}
}

func TestAdjustDayAtTheEnds(t *testing.T) {
	first, last := calendars()["twelve at first"], calendars()["twelve at last"]
	for _, x := range []struct {
		h             []int
		n, rule, want int
	}{
		{nil, impl.MaxDay, impl.AdjustNext, -1},
		{nil, impl.MaxDay, impl.AdjustLast, impl.MaxDay - 1},
		{nil, impl.MaxDay, impl.AdjustMonth, impl.MaxDay - 1},
		{nil, impl.MaxDay, impl.AdjustNone, impl.MaxDay},
		{first, 0, impl.AdjustNext, 16},
		{first, 0, impl.AdjustLast, -1},
		{first, 15, impl.AdjustLast, -1},
		{first, 0, impl.AdjustMonth, 16},
		{first, 0, impl.AdjustNone, 0},
		{last, impl.MaxDay - 15, impl.AdjustNext, -1},
		{last, impl.MaxDay - 15, impl.AdjustMonth, impl.MaxDay - 16},
		{last, impl.MaxDay, impl.AdjustLast, impl.MaxDay - 16},
	} {
		if got := impl.AdjustDay(x.h, x.n, x.rule); got != x.want {
			t.Errorf("AdjustDay(%v, %d, %d) = %d, want %d", x.h, x.n, x.rule, got, x.want)
		}
	}
}

func TestAdjustDayOfInvalidArguments(t *testing.T) {
	for _, rule := range []int{impl.AdjustNone, impl.AdjustNext, impl.AdjustLast, impl.AdjustMonth} {
		for _, n := range outsideDays {
			if got := impl.AdjustDay(nil, n, rule); got != -1 {
				t.Errorf("AdjustDay(%d, %d) = %d", n, rule, got)
			}
		}
		for name, h := range badCalendars() {
			for _, n := range []int{0, 10957, 20001, impl.MaxDay - 1} {
				if got := impl.AdjustDay(h, n, rule); got != -1 {
					t.Errorf("%s: AdjustDay(%d, %d) = %d", name, n, rule, got)
				}
			}
		}
	}
	for _, rule := range append([]int{-1, 4}, extremes...) {
		if got := impl.AdjustDay(nil, 10957, rule); got != -1 {
			t.Errorf("AdjustDay(10957, %d) = %d", rule, got)
		}
	}
}

func TestP9AdjustedDaysAreBusinessDays(t *testing.T) {
	for name, h := range calendars() {
		for _, n := range allDays() {
			for _, rule := range businessRules {
				got := impl.AdjustDay(h, n, rule)
				if got >= 0 && (!impl.IsBusiness(h, got) || impl.AdjustDay(h, got, rule) != got) {
					t.Fatalf("%s: AdjustDay(%d, %d) = %d", name, n, rule, got)
				}
			}
		}
	}
}

func TestP10NoBusinessDayLiesBetween(t *testing.T) {
	for name, h := range calendars() {
		for _, n := range allDays() {
			next, last := impl.AdjustDay(h, n, impl.AdjustNext), impl.AdjustDay(h, n, impl.AdjustLast)
			if impl.IsBusiness(h, n) && (next != n || last != n) {
				t.Fatalf("%s: business day %d becomes %d and %d", name, n, next, last)
			}
			for between := n; between < next; between++ {
				if impl.IsBusiness(h, between) {
					t.Fatalf("%s: between %d and %d is %d", name, n, next, between)
				}
			}
			for between := n; last >= 0 && between > last; between-- {
				if impl.IsBusiness(h, between) {
					t.Fatalf("%s: between %d and %d is %d", name, last, n, between)
				}
			}
		}
	}
}

func TestP27MonthsAreKept(t *testing.T) {
	for name, h := range calendars() {
		for _, n := range allDays() {
			got := impl.AdjustDay(h, n, impl.AdjustMonth)
			next, last := impl.AdjustDay(h, n, impl.AdjustNext), impl.AdjustDay(h, n, impl.AdjustLast)
			if got != next && got != last {
				t.Fatalf("%s: AdjustDay(%d) = %d, neither %d nor %d", name, n, got, next, last)
			}
			inMonth := func(x int) bool {
				return x >= 0 && dateAt(x).Year == dateAt(n).Year && dateAt(x).Month == dateAt(n).Month
			}
			if (inMonth(next) || inMonth(last)) && !inMonth(got) || inMonth(next) && got != next {
				t.Fatalf("%s: AdjustDay(%d) = %d of %d and %d", name, n, got, next, last)
			}
		}
	}
}

func TestP11BusinessDaysAreCounted(t *testing.T) {
	for name, h := range calendars() {
		open := plainTable(h)
		for _, n := range someDays() {
			want := plainSeek(open, n, 1)
			for many := 0; many <= impl.MaxLag; many++ {
				if got := impl.AddBusiness(h, n, many); got != want {
					t.Fatalf("%s: AddBusiness(%d, %d) = %d, want %d", name, n, many, got, want)
				}
				if want >= 0 {
					want = plainSeek(open, want+1, 1)
				}
			}
		}
	}
}

func TestAddBusinessBehindTheLastDay(t *testing.T) {
	if got := impl.AddBusiness(nil, impl.MaxDay-2, 1); got != impl.MaxDay-1 {
		t.Errorf("AddBusiness before the last business day = %d", got)
	}
	for many := 0; many <= impl.MaxLag; many++ {
		if got := impl.AddBusiness(nil, impl.MaxDay, many); got != -1 {
			t.Errorf("AddBusiness(MaxDay, %d) = %d", many, got)
		}
		if got := impl.AddBusiness(nil, impl.MaxDay-1, many); many > 0 && got != -1 {
			t.Errorf("AddBusiness(MaxDay-1, %d) = %d", many, got)
		}
	}
}

func TestAddBusinessOfInvalidArguments(t *testing.T) {
	for _, n := range outsideDays {
		for _, many := range []int{0, 1, impl.MaxLag} {
			if got := impl.AddBusiness(nil, n, many); got != -1 {
				t.Errorf("AddBusiness(%d, %d) = %d", n, many, got)
			}
		}
	}
	for _, many := range append([]int{-1, impl.MaxLag + 1}, extremes...) {
		if got := impl.AddBusiness(nil, 10957, many); got != -1 {
			t.Errorf("AddBusiness(10957, %d) = %d", many, got)
		}
	}
	for name, h := range badCalendars() {
		if got := impl.AddBusiness(h, 10957, 2); got != -1 {
			t.Errorf("%s: AddBusiness = %d", name, got)
		}
	}
}

func TestP12BetweenLieAsManyBusinessDays(t *testing.T) {
	for name, h := range calendars() {
		for _, n := range someDays() {
			for many := 0; many <= impl.MaxLag; many++ {
				to := impl.AddBusiness(h, n, many)
				if to < 0 {
					continue
				}
				if got := impl.BusinessBetween(h, n, to); got != many {
					t.Fatalf("%s: BusinessBetween(%d, %d) = %d, want %d", name, n, to, got, many)
				}
			}
		}
	}
}

// spans are numbers of days between two days.
var spans = []int{0, 1, 2, 3, 5, 6, 7, 8, 31, 365, 366, 1461, 3999, 4000}

func TestP13SpansAddUp(t *testing.T) {
	for name, h := range calendars() {
		for _, from := range spaced(0, impl.MaxDay, 611) {
			for _, span := range spans {
				to := from + span
				if to > impl.MaxDay {
					continue
				}
				whole := impl.BusinessBetween(h, from, to)
				for _, middle := range []int{from, from + span/3, from + span/2, to} {
					a, b := impl.BusinessBetween(h, from, middle), impl.BusinessBetween(h, middle, to)
					if a < 0 || b < 0 || a+b != whole {
						t.Fatalf("%s: %d..%d..%d has %d + %d of %d", name, from, middle, to, a, b, whole)
					}
				}
			}
		}
	}
}

func TestBusinessBetweenIsACount(t *testing.T) {
	for name, h := range calendars() {
		open := plainTable(h)
		for _, from := range append(spaced(0, impl.MaxDay, 977), 10950, day(2021, 3, 1), impl.MaxDay-20, impl.MaxDay-4000) {
			for _, span := range spans {
				if from+span > impl.MaxDay {
					continue
				}
				want := 0
				for _, is := range open[from : from+span] {
					if is {
						want++
					}
				}
				if got := impl.BusinessBetween(h, from, from+span); got != want {
					t.Fatalf("%s: BusinessBetween(%d, %d) = %d, want %d", name, from, from+span, got, want)
				}
			}
		}
	}
}

func TestBusinessBetweenOfInvalidArguments(t *testing.T) {
	for _, x := range [][2]int{{1, 0}, {impl.MaxDay, impl.MaxDay - 1}, {0, 4001}, {impl.MaxDay - 4001, impl.MaxDay}, {0, impl.MaxDay}, {-1, 5}, {-1, -1}, {impl.MaxDay, impl.MaxDay + 1}, {impl.MaxDay + 1, impl.MaxDay + 1}} {
		if got := impl.BusinessBetween(nil, x[0], x[1]); got != -1 {
			t.Errorf("BusinessBetween(%d, %d) = %d", x[0], x[1], got)
		}
	}
	for _, x := range extremes {
		for _, y := range append([]int{0, 10957}, extremes...) {
			if impl.BusinessBetween(nil, x, y) != -1 || impl.BusinessBetween(nil, y, x) != -1 {
				t.Errorf("BusinessBetween of %d and %d", x, y)
			}
		}
	}
	for name, h := range badCalendars() {
		for _, to := range []int{10957, 10964} {
			if got := impl.BusinessBetween(h, 10957, to); got != -1 {
				t.Errorf("%s: BusinessBetween(10957, %d) = %d", name, to, got)
			}
		}
	}
}

func TestP129MoreHolidaysLeaveFewerBusinessDays(t *testing.T) {
	for name, h := range calendars() {
		if len(h) == 0 {
			continue
		}
		for _, n := range allDays() {
			if impl.IsBusiness(h, n) && !impl.IsBusiness(h[1:], n) {
				t.Fatalf("%s: %d is a business day only with %d", name, n, h[0])
			}
		}
		if w := impl.WeekdayOf(h[0]); w < 5 && (impl.IsBusiness(h, h[0]) || !impl.IsBusiness(h[1:], h[0])) {
			t.Errorf("%s: the first holiday %d", name, h[0])
		}
	}
}

func TestP130WeeksHaveFiveBusinessDays(t *testing.T) {
	for n := 0; n+7 <= impl.MaxDay; n++ {
		if got := impl.BusinessBetween(nil, n, n+7); got != 5 {
			t.Fatalf("BusinessBetween(%d, %d) = %d", n, n+7, got)
		}
	}
}

func TestHolidaysAreNotChanged(t *testing.T) {
	for name, h := range calendars() {
		before := slices.Clone(h)
		for _, n := range []int{0, 10957, impl.MaxDay} {
			impl.IsBusiness(h, n)
			impl.AdjustDay(h, n, impl.AdjustMonth)
			impl.AddBusiness(h, n, 3)
			impl.BusinessBetween(h, n, n)
		}
		if !slices.Equal(h, before) {
			t.Errorf("%s: holidays became %v", name, h)
		}
	}
}
