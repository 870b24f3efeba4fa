package tests

import (
	"testing"

	"loop.example/bonddesk/impl"
)

// monthCounts are numbers of months within the limits.
var monthCounts = []int{-600, -599, -240, -25, -24, -14, -13, -12, -11, -6, -3, -2, -1, 0, 1, 2, 3, 6, 11, 12, 13, 14, 24, 25, 37, 48, 240, 599, 600}

// calendarAddMonths is AddMonths by the library's calendar, for valid arguments.
func calendarAddMonths(n int, months int) int {
	d := calendarDate(n)
	first := calendarDate(day(d.Year, d.Month+months, 1))
	if first.Year < impl.MinYear || first.Year > impl.MaxYear {
		return -1
	}
	return day(first.Year, first.Month, min(d.Day, calendarDays(first.Year, first.Month)))
}

func TestDateLimits(t *testing.T) {
	got := [4]int{impl.MinYear, impl.MaxYear, impl.MaxDay, impl.MaxMonths}
	if got != [4]int{1990, 2089, 36524, 600} {
		t.Errorf("limits = %v", got)
	}
}

func TestDaysInOfEveryMonth(t *testing.T) {
	for year := impl.MinYear; year <= impl.MaxYear; year++ {
		for month := 1; month <= 12; month++ {
			if got, want := impl.DaysIn(year, month), calendarDays(year, month); got != want {
				t.Errorf("DaysIn(%d, %d) = %d, want %d", year, month, got, want)
			}
		}
	}
}

func TestDaysInOfInvalidMonths(t *testing.T) {
	years := append([]int{impl.MinYear - 1, impl.MaxYear + 1, 0, -2000, 1988, 2092}, extremes...)
	for _, year := range years {
		for _, month := range append([]int{1, 2, 12}, extremes...) {
			if got := impl.DaysIn(year, month); got != -1 {
				t.Errorf("DaysIn(%d, %d) = %d", year, month, got)
			}
		}
	}
	for _, month := range append([]int{0, 13, -1, -2}, extremes...) {
		for _, year := range []int{impl.MinYear, 2000, 2023, impl.MaxYear} {
			if got := impl.DaysIn(year, month); got != -1 {
				t.Errorf("DaysIn(%d, %d) = %d", year, month, got)
			}
		}
	}
}

func TestP1YearsHaveTheirDays(t *testing.T) {
	for year := impl.MinYear; year <= impl.MaxYear; year++ {
		sum := 0
		for month := 1; month <= 12; month++ {
			sum += impl.DaysIn(year, month)
		}
		want := 365
		if impl.DaysIn(year, 2) == 29 {
			want = 366
		}
		if sum != want {
			t.Errorf("year %d has %d days, want %d", year, sum, want)
		}
	}
}

func TestP2ValidDatesHaveNumbers(t *testing.T) {
	for year := impl.MinYear - 3; year <= impl.MaxYear+3; year++ {
		for month := -1; month <= 14; month++ {
			for d := -1; d <= 33; d++ {
				checkDate(t, impl.Date{Year: year, Month: month, Day: d})
			}
		}
	}
	for _, x := range extremes {
		checkDate(t, impl.Date{Year: x, Month: 1, Day: 1})
		checkDate(t, impl.Date{Year: 2000, Month: x, Day: 1})
		checkDate(t, impl.Date{Year: 2000, Month: 1, Day: x})
	}
}

// checkDate compares ValidDate and DayOf of any date with the library's calendar.
func checkDate(t *testing.T, d impl.Date) {
	t.Helper()
	valid := d.Year >= 1990 && d.Year <= 2089 && d.Month >= 1 && d.Month <= 12 && d.Day >= 1 && d.Day <= calendarDays(d.Year, d.Month)
	want := -1
	if valid {
		want = day(d.Year, d.Month, d.Day)
	}
	if impl.ValidDate(d) != valid || impl.DayOf(d) != want {
		t.Errorf("ValidDate(%v) = %v, DayOf = %d, want %v, %d", d, impl.ValidDate(d), impl.DayOf(d), valid, want)
	}
}

func TestP3NumbersTellDates(t *testing.T) {
	for year := impl.MinYear; year <= impl.MaxYear; year++ {
		for month := 1; month <= 12; month++ {
			for d := 1; d <= calendarDays(year, month); d++ {
				date := impl.Date{Year: year, Month: month, Day: d}
				if got, ok := impl.DateOf(impl.DayOf(date)); !ok || got != date {
					t.Fatalf("DateOf(DayOf(%v)) = %v, %v", date, got, ok)
				}
			}
		}
	}
}

func TestP4DatesFollowEachOther(t *testing.T) {
	for _, n := range allDays() {
		d, ok := impl.DateOf(n)
		if !ok || d != calendarDate(n) || impl.DayOf(d) != n {
			t.Fatalf("DateOf(%d) = %v, %v, DayOf %d", n, d, ok, impl.DayOf(d))
		}
		next, ok := impl.DateOf(n + 1)
		if ok != (n < impl.MaxDay) || ok && !isLater(next, d) {
			t.Fatalf("DateOf(%d) = %v, %v behind %v", n+1, next, ok, d)
		}
	}
}

func isLater(a impl.Date, b impl.Date) bool {
	return (a.Year*12+a.Month)*31+a.Day > (b.Year*12+b.Month)*31+b.Day
}

func TestDateOfOtherNumbers(t *testing.T) {
	for _, n := range outsideDays {
		if d, ok := impl.DateOf(n); ok || d != (impl.Date{}) {
			t.Errorf("DateOf(%d) = %v, %v", n, d, ok)
		}
	}
}

func TestP5MonthsAreMonths(t *testing.T) {
	for _, n := range allDays() {
		if impl.AddMonths(n, 0) != n {
			t.Fatalf("AddMonths(%d, 0) = %d", n, impl.AddMonths(n, 0))
		}
		for _, months := range monthCounts {
			got := impl.AddMonths(n, months)
			if want := calendarAddMonths(n, months); got != want {
				t.Fatalf("AddMonths(%d, %d) = %d, want %d", n, months, got, want)
			}
			if got < 0 {
				continue
			}
			d := dateAt(got)
			if d.Day != dateAt(n).Day && d.Day != impl.DaysIn(d.Year, d.Month) {
				t.Fatalf("AddMonths(%d, %d) is %v", n, months, d)
			}
		}
	}
}

func TestAddMonthsByEveryNumber(t *testing.T) {
	for _, n := range []int{0, 30, 58, 789, day(2020, 1, 31), day(2039, 12, 31), day(2040, 1, 1), day(2040, 2, 29), impl.MaxDay - 31, impl.MaxDay} {
		for months := -impl.MaxMonths; months <= impl.MaxMonths; months++ {
			if got, want := impl.AddMonths(n, months), calendarAddMonths(n, months); got != want {
				t.Errorf("AddMonths(%d, %d) = %d, want %d", n, months, got, want)
			}
		}
	}
}

func TestAddMonthsOfInvalidArguments(t *testing.T) {
	for _, n := range outsideDays {
		for _, months := range []int{0, 1, -1, 600, -600, -12, 12} {
			if got := impl.AddMonths(n, months); got != -1 {
				t.Errorf("AddMonths(%d, %d) = %d", n, months, got)
			}
		}
	}
	for _, months := range append([]int{-601, 601}, extremes...) {
		for _, n := range []int{0, day(2039, 12, 31), day(2040, 1, 1), day(2050, 6, 15), impl.MaxDay} {
			if got := impl.AddMonths(n, months); got != -1 {
				t.Errorf("AddMonths(%d, %d) = %d", n, months, got)
			}
		}
	}
}

func TestP6LaterDaysStayLater(t *testing.T) {
	for _, months := range monthCounts {
		for _, n := range allDays()[:impl.MaxDay] {
			a, b := impl.AddMonths(n, months), impl.AddMonths(n+1, months)
			if a >= 0 && b >= 0 && b < a {
				t.Fatalf("AddMonths by %d of %d and the next day are %d and %d", months, n, a, b)
			}
		}
	}
}

func TestP126EveryFourthYearIsLonger(t *testing.T) {
	for year := impl.MinYear; year <= impl.MaxYear; year++ {
		want := 28
		if year%4 == 0 {
			want = 29
		}
		if got := impl.DaysIn(year, 2); got != want {
			t.Errorf("DaysIn(%d, 2) = %d", year, got)
		}
		if year+4 <= impl.MaxYear && impl.DaysIn(year, 2) != impl.DaysIn(year+4, 2) {
			t.Errorf("February of %d and of %d", year, year+4)
		}
	}
}

func TestP127MonthsCanBeTakenBack(t *testing.T) {
	for _, n := range allDays() {
		for _, months := range monthCounts {
			there := impl.AddMonths(n, months)
			if there < 0 {
				continue
			}
			if back := impl.AddMonths(there, -months); back > n || back < n-3 {
				t.Fatalf("AddMonths of %d by %d and back is %d", n, months, back)
			}
		}
	}
}

func TestP128YearsHaveTwelveMonths(t *testing.T) {
	for _, n := range allDays() {
		want := calendarDate(n)
		want.Year++
		if want.Month == 2 && want.Day == 29 {
			want.Day = 28
		}
		got := impl.AddMonths(n, 12)
		if want.Year > impl.MaxYear {
			if got != -1 {
				t.Fatalf("AddMonths(%d, 12) = %d", n, got)
			}
		} else if dateAt(got) != want {
			t.Fatalf("AddMonths(%d, 12) is %v, want %v", n, dateAt(got), want)
		}
	}
}
