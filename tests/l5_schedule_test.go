package tests

import (
	"math"
	"slices"
	"testing"

	"loop.example/bonddesk/impl"
)

// terms are the numbers of months that a period may have.
var terms = []int{1, 3, 6, 12}

// otherTerms are numbers of months that no period has.
var otherTerms = append([]int{-12, -6, -3, -1, 0, 2, 4, 5, 7, 8, 9, 10, 11, 13, 15, 18, 24, 36, 600}, extremes...)

// scheduleEnds returns days at which schedules may end: the ends of short and long months, leap days, and the first and last days.
func scheduleEnds() []int {
	out := []int{0, 1, 27, 28, 30, 31, 58, 59, 60, 89, 365, 730, 789, 790, 4000, impl.MaxDay - 366, impl.MaxDay - 365, impl.MaxDay - 1, impl.MaxDay}
	for _, year := range []int{1999, 2000, 2001, 2019, 2020, 2039, 2040, 2089} {
		for _, month := range []int{1, 2, 3, 4, 6, 8, 12} {
			last := calendarDays(year, month)
			out = append(out, day(year, month, 1), day(year, month, 15), day(year, month, last-1), day(year, month, last))
		}
	}
	return out
}

// startsBefore returns days at and around those at which periods of a schedule may begin, also more than MaxPeriods periods before the end, and some that are not before it.
func startsBefore(end int, months int) []int {
	out := []int{0, 1, 40, impl.MaxDay}
	for _, k := range []int{0, 1, 2, 3, 7, 39, 40, 41, 60} {
		mark := calendarAddMonths(end, -k*months)
		for _, n := range []int{mark - 1, mark, mark + 1, mark + 9*months} {
			if mark >= 0 && n >= 0 && n <= impl.MaxDay {
				out = append(out, n)
			}
		}
	}
	return out
}

// plainSchedule is ScheduleOf by the library's calendar, for valid days and months.
func plainSchedule(start int, end int, months int) []impl.Period {
	marks := []int{end}
	for marks[0] > start {
		marks = slices.Insert(marks, 0, calendarAddMonths(end, -len(marks)*months))
	}
	if len(marks) == 1 || len(marks) > 41 {
		return nil
	}
	out := []impl.Period{{From: start, To: marks[1], Whole: marks[0] == start}}
	for i := 2; i < len(marks); i++ {
		out = append(out, impl.Period{From: marks[i-1], To: marks[i], Whole: true})
	}
	return out
}

// eachSchedule calls a function with the arguments of many schedules that succeed.
func eachSchedule(f func(start int, end int, months int, list []impl.Period)) {
	for _, end := range scheduleEnds() {
		for _, months := range terms {
			for _, start := range startsBefore(end, months) {
				if len(plainSchedule(start, end, months)) > 0 {
					f(start, end, months, impl.ScheduleOf(start, end, months))
				}
			}
		}
	}
}

func TestScheduleLimits(t *testing.T) {
	if impl.MaxPeriods != 40 {
		t.Errorf("MaxPeriods = %d", impl.MaxPeriods)
	}
}

func TestScheduleIsExact(t *testing.T) {
	for _, end := range scheduleEnds() {
		for _, months := range terms {
			for _, start := range startsBefore(end, months) {
				got, want := impl.ScheduleOf(start, end, months), plainSchedule(start, end, months)
				if !slices.Equal(got, want) {
					t.Fatalf("ScheduleOf(%d, %d, %d) = %v, want %v", start, end, months, got, want)
				}
			}
		}
	}
}

func TestScheduleOfEveryStart(t *testing.T) {
	for _, end := range []int{day(1991, 3, 31), day(2001, 2, 28), day(2004, 2, 29)} {
		for _, months := range terms {
			for start := range end + 2 {
				got, want := impl.ScheduleOf(start, end, months), plainSchedule(start, end, months)
				if !slices.Equal(got, want) {
					t.Fatalf("ScheduleOf(%d, %d, %d) = %v, want %v", start, end, months, got, want)
				}
			}
		}
	}
}

func TestScheduleByHand(t *testing.T) {
	for _, x := range []struct {
		start, end, months int
		want               []impl.Period
	}{
		{day(2023, 1, 30), day(2023, 3, 31), 1, []impl.Period{
			{From: day(2023, 1, 30), To: day(2023, 1, 31)},
			{From: day(2023, 1, 31), To: day(2023, 2, 28), Whole: true},
			{From: day(2023, 2, 28), To: day(2023, 3, 31), Whole: true}}},
		{day(2023, 2, 28), day(2023, 5, 31), 3, []impl.Period{{From: day(2023, 2, 28), To: day(2023, 5, 31), Whole: true}}},
		{day(2024, 2, 28), day(2024, 5, 31), 3, []impl.Period{
			{From: day(2024, 2, 28), To: day(2024, 2, 29)},
			{From: day(2024, 2, 29), To: day(2024, 5, 31), Whole: true}}},
		{day(2019, 2, 28), day(2020, 2, 29), 12, []impl.Period{{From: day(2019, 2, 28), To: day(2020, 2, 29), Whole: true}}},
		{day(2020, 8, 31), day(2021, 8, 30), 6, []impl.Period{
			{From: day(2020, 8, 31), To: day(2021, 2, 28)},
			{From: day(2021, 2, 28), To: day(2021, 8, 30), Whole: true}}},
		{0, 1, 12, []impl.Period{{From: 0, To: 1}}},
		{0, 365, 12, []impl.Period{{From: 0, To: 365, Whole: true}}},
		{impl.MaxDay - 1, impl.MaxDay, 1, []impl.Period{{From: impl.MaxDay - 1, To: impl.MaxDay}}},
	} {
		if got := impl.ScheduleOf(x.start, x.end, x.months); !slices.Equal(got, x.want) {
			t.Errorf("ScheduleOf(%v, %v, %d) = %v, want %v", dateAt(x.start), dateAt(x.end), x.months, got, x.want)
		}
	}
}

func TestScheduleOfFortyPeriods(t *testing.T) {
	for _, months := range terms {
		for _, end := range []int{day(2040, 2, 29), day(2080, 12, 31), impl.MaxDay} {
			start := calendarAddMonths(end, -40*months)
			if got := impl.ScheduleOf(start, end, months); len(got) != 40 || !got[0].Whole {
				t.Errorf("ScheduleOf(%d, %d, %d) has %d periods", start, end, months, len(got))
			}
			if got := impl.ScheduleOf(start+1, end, months); len(got) != 40 || got[0].Whole {
				t.Errorf("ScheduleOf(%d, %d, %d) has %d periods", start+1, end, months, len(got))
			}
			for _, early := range []int{start - 1, calendarAddMonths(end, -41*months), calendarAddMonths(end, -41*months) - 1, 0} {
				if got := impl.ScheduleOf(early, end, months); len(got) != 0 {
					t.Errorf("ScheduleOf(%d, %d, %d) has %d periods", early, end, months, len(got))
				}
			}
		}
	}
}

func TestScheduleOfInvalidArguments(t *testing.T) {
	check := func(start int, end int, months int) {
		if got := impl.ScheduleOf(start, end, months); len(got) != 0 {
			t.Errorf("ScheduleOf(%d, %d, %d) = %v", start, end, months, got)
		}
	}
	for _, months := range terms {
		for _, n := range outsideDays {
			check(n, 10, months)
			check(n, n, months)
			check(impl.MaxDay-10, n, months)
			check(0, n, months)
		}
		for _, n := range []int{0, 1, day(2020, 2, 29), impl.MaxDay} {
			check(n, n, months)
			check(n, n-1, months)
			check(n, 0, months)
		}
	}
	for _, months := range otherTerms {
		check(0, 1, months)
		check(day(2020, 1, 31), day(2021, 1, 31), months)
		check(0, impl.MaxDay, months)
	}
}

func TestP24PeriodsFollowEachOther(t *testing.T) {
	eachSchedule(func(start int, end int, months int, list []impl.Period) {
		if len(list) == 0 || list[0].From != start || list[len(list)-1].To != end {
			t.Fatalf("ScheduleOf(%d, %d, %d) = %v", start, end, months, list)
		}
		for i, p := range list {
			if p.From >= p.To || i > 0 && (p.From != list[i-1].To || !p.Whole) {
				t.Fatalf("ScheduleOf(%d, %d, %d) has %v at %d", start, end, months, p, i)
			}
		}
	})
}

func TestP25PeriodsAreCountedFromTheEnd(t *testing.T) {
	eachSchedule(func(start int, end int, months int, list []impl.Period) {
		for i, p := range list {
			if k := len(list) - 1 - i; p.To != impl.AddMonths(end, -k*months) {
				t.Fatalf("ScheduleOf(%d, %d, %d) has %v at %d", start, end, months, p, i)
			}
		}
	})
}

func TestP26EveryDayHasOnePeriod(t *testing.T) {
	for _, x := range [][3]int{{day(2020, 3, 1), day(2021, 1, 15), 6}, {day(2022, 11, 30), day(2023, 3, 31), 1}, {0, 59, 12}, {0, 1, 1}, {day(2000, 2, 29), day(2010, 2, 28), 3}, {day(2049, 12, 31), impl.MaxDay, 12}} {
		list := impl.ScheduleOf(x[0], x[1], x[2])
		for n := x[0] - 3; n <= x[1]+3; n++ {
			i := impl.PeriodAt(list, n)
			inside := n >= x[0] && n < x[1]
			if !inside && i != -1 || inside && (i < 0 || i >= len(list) || n < list[i].From || n >= list[i].To) {
				t.Fatalf("PeriodAt(%v, %d) = %d", list, n, i)
			}
		}
		for _, n := range append([]int{-1, impl.MaxDay + 1}, extremes...) {
			if i := impl.PeriodAt(list, n); i != -1 {
				t.Errorf("PeriodAt(%v, %d) = %d", list, n, i)
			}
		}
	}
}

func TestPeriodAtTheEndsOfPeriods(t *testing.T) {
	eachSchedule(func(start int, end int, months int, list []impl.Period) {
		for i, p := range list {
			next := i + 1
			if next == len(list) {
				next = -1
			}
			if a, b, c, d := impl.PeriodAt(list, p.From-1), impl.PeriodAt(list, p.From), impl.PeriodAt(list, p.To-1), impl.PeriodAt(list, p.To); a != i-1 || b != i || c != i || d != next {
				t.Fatalf("PeriodAt around %v, number %d of ScheduleOf(%d, %d, %d): %d, %d, %d, %d", p, i, start, end, months, a, b, c, d)
			}
		}
	})
}

func TestPeriodAtOfAnyPeriods(t *testing.T) {
	overlap := []impl.Period{{From: 30, To: 40}, {From: 10, To: 35, Whole: true}, {From: 0, To: 100}, {From: 90, To: 120}}
	empty := []impl.Period{{From: 5, To: 5}, {From: 9, To: 3}, {From: 5, To: 6}}
	for _, x := range []struct {
		list      []impl.Period
		day, want int
	}{
		{nil, 0, -1}, {[]impl.Period{}, 5, -1}, {[]impl.Period{{}}, 0, -1},
		{overlap, 30, 0}, {overlap, 39, 0}, {overlap, 40, 2}, {overlap, 29, 1}, {overlap, 10, 1}, {overlap, 9, 2}, {overlap, 95, 2}, {overlap, 100, 3}, {overlap, 120, -1}, {overlap, -1, -1},
		{empty, 5, 2}, {empty, 4, -1}, {empty, 6, -1}, {empty, 3, -1},
		{[]impl.Period{{From: math.MinInt, To: math.MaxInt}}, math.MinInt, 0}, {[]impl.Period{{From: math.MinInt, To: math.MaxInt}}, math.MaxInt, -1},
	} {
		if got := impl.PeriodAt(x.list, x.day); got != x.want {
			t.Errorf("PeriodAt(%v, %d) = %d, want %d", x.list, x.day, got, x.want)
		}
	}
}

func TestPeriodAtOfTooManyPeriods(t *testing.T) {
	var list []impl.Period
	for n := range 41 {
		list = append(list, impl.Period{From: 10 * n, To: 10*n + 10, Whole: true})
	}
	for n := range 410 {
		want := n / 10
		if want == 40 {
			want = -1
		}
		if got := impl.PeriodAt(list[:40], n); got != want {
			t.Errorf("PeriodAt 40 periods, day %d = %d", n, got)
		}
		if got := impl.PeriodAt(list, n); got != -1 {
			t.Errorf("PeriodAt 41 periods, day %d = %d", n, got)
		}
	}
}

func TestP134SchedulesCanFit(t *testing.T) {
	for _, end := range scheduleEnds() {
		for _, months := range terms {
			for k := 1; k <= 40; k++ {
				start := impl.AddMonths(end, -k*months)
				if start < 0 {
					break
				}
				list := impl.ScheduleOf(start, end, months)
				if len(list) != k || slices.ContainsFunc(list, func(p impl.Period) bool { return !p.Whole }) {
					t.Fatalf("ScheduleOf(%d, %d, %d) = %v", start, end, months, list)
				}
			}
		}
	}
}

func TestP135ShorterPeriodsDivideLongerOnes(t *testing.T) {
	eachSchedule(func(start int, end int, months int, list []impl.Period) {
		for _, shorter := range terms {
			parts := impl.ScheduleOf(start, end, shorter)
			if months%shorter != 0 || len(parts) == 0 {
				continue
			}
			for _, p := range list {
				if !slices.ContainsFunc(parts, func(q impl.Period) bool { return q.To == p.To }) {
					t.Fatalf("ScheduleOf(%d, %d, %d) has no end of %v", start, end, shorter, p)
				}
			}
		}
	})
}

func TestSchedulesShareNothing(t *testing.T) {
	start, end := day(2020, 3, 1), day(2021, 1, 15)
	want := plainSchedule(start, end, 6)
	list := impl.ScheduleOf(start, end, 6)
	if impl.PeriodAt(list, start); !slices.Equal(list, want) {
		t.Errorf("PeriodAt changes its periods to %v", list)
	}
	clear(list[:cap(list)])
	if got := impl.ScheduleOf(start, end, 6); !slices.Equal(got, want) {
		t.Errorf("ScheduleOf behind a change = %v", got)
	}
}
