package impl

import "slices"

// MinYear is the first year.
const MinYear = 1990

// MaxYear is the last year.
const MaxYear = 2089

// MaxDay is the number of the last day.
const MaxDay = 36524

// MaxMonths is the largest number of months.
const MaxMonths = 600

// Date is a day of the calendar.
type Date struct {
	Year  int
	Month int
	Day   int
}

// monthStart is the number of days before each month of a common year, and before the next year.
var monthStart = [13]int{0, 31, 59, 90, 120, 151, 181, 212, 243, 273, 304, 334, 365}

// DaysIn returns the number of days of a month.
func DaysIn(year int, month int) int {
	if !between(year, MinYear, MaxYear) || !between(month, 1, 12) {
		return -1
	}
	return daysBeforeMonth(year, month+1) - daysBeforeMonth(year, month)
}

// ValidDate reports whether a date is valid.
func ValidDate(d Date) bool {
	return between(d.Day, 1, DaysIn(d.Year, d.Month))
}

// DayOf returns the number of a date.
func DayOf(d Date) int {
	if !ValidDate(d) {
		return -1
	}
	return yearStart(d.Year) + daysBeforeMonth(d.Year, d.Month) + d.Day - 1
}

// DateOf returns the date of a number.
func DateOf(n int) (Date, bool) {
	if !validDay(n) {
		return Date{}, false
	}
	// No year is longer than 366 days, so the quotient never passes the year.
	year := MinYear + n/366
	for yearStart(year+1) <= n {
		year++
	}
	rest := n - yearStart(year)
	month := 1
	for daysBeforeMonth(year, month+1) <= rest {
		month++
	}
	return Date{Year: year, Month: month, Day: rest - daysBeforeMonth(year, month) + 1}, true
}

// AddMonths returns the day some months later.
func AddMonths(n int, months int) int {
	d, ok := DateOf(n)
	if !ok || !between(months, -MaxMonths, MaxMonths) {
		return -1
	}
	total := 12*d.Year + d.Month - 1 + months
	year, month := total/12, total%12+1
	// Outside the years DaysIn is -1, which is the day of no date.
	return DayOf(Date{Year: year, Month: month, Day: min(d.Day, DaysIn(year, month))})
}

// between reports whether a number is not less than a first one and not greater than a second one.
func between(n int, low int, high int) bool {
	return low <= n && n <= high
}

// allValid reports whether the number of elements of a list is within limits and each of them is valid.
func allValid[T any](list []T, least int, most int, valid func(element T) bool) bool {
	invalid := func(element T) bool { return !valid(element) }
	return between(len(list), least, most) && !slices.ContainsFunc(list, invalid)
}

// validDay reports whether a number is that of a day.
func validDay(n int) bool {
	return between(n, 0, MaxDay)
}

// isLeap reports whether a year has a February 29.
func isLeap(year int) bool {
	return year%4 == 0 && (year%100 != 0 || year%400 == 0)
}

// leapsBefore returns the number of leap years before a year.
func leapsBefore(year int) int {
	last := year - 1
	return last/4 - last/100 + last/400
}

// yearStart returns the number of January 1 of a year.
func yearStart(year int) int {
	return 365*(year-MinYear) + leapsBefore(year) - leapsBefore(MinYear)
}

// daysBeforeMonth returns the number of days of a year before a month; month 13 stands for the next year.
func daysBeforeMonth(year int, month int) int {
	days := monthStart[month-1]
	if month > 2 && isLeap(year) {
		days++
	}
	return days
}
