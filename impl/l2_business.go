package impl

// MaxHolidays is the largest number of holidays.
const MaxHolidays = 12

// MaxLag is the largest number of business days that are added.
const MaxLag = 30

// MaxSpan is the largest number of days between two days.
const MaxSpan = 4000

// AdjustNone is the rule that changes no day.
const AdjustNone = 0

// AdjustNext is the rule that goes to the next business day.
const AdjustNext = 1

// AdjustLast is the rule that goes to the last business day.
const AdjustLast = 2

// AdjustMonth is the rule that stays in the month.
const AdjustMonth = 3

// saturday is the first day of the week that is no business day.
const saturday = 5

// holidaySet is the days that are holidays.
type holidaySet map[int]bool

// WeekdayOf returns the day of the week.
func WeekdayOf(n int) int {
	if !validDay(n) {
		return -1
	}
	return n % 7
}

// IsBusiness reports whether a day is a business day.
func IsBusiness(h []int, n int) bool {
	set, ok := holidaysOf(h)
	return ok && validDay(n) && set.open(n)
}

// AdjustDay returns a day adjusted by a rule.
func AdjustDay(h []int, n int, rule int) int {
	set, ok := holidaysOf(h)
	if !ok || !validDay(n) {
		return -1
	}
	switch rule {
	case AdjustNone:
		return n
	case AdjustNext:
		return set.seek(n, 1)
	case AdjustLast:
		return set.seek(n, -1)
	case AdjustMonth:
		return set.seekInMonth(n)
	}
	return -1
}

// AddBusiness returns the day some business days later.
func AddBusiness(h []int, n int, many int) int {
	set, ok := holidaysOf(h)
	if !ok || !validDay(n) || !between(many, 0, MaxLag) {
		return -1
	}
	day := set.seek(n, 1)
	for i := 0; i < many && day >= 0; i++ {
		day = set.seek(day+1, 1)
	}
	return day
}

// BusinessBetween returns the number of business days between two days.
func BusinessBetween(h []int, from int, to int) int {
	set, ok := holidaysOf(h)
	if !ok || !validSpan(from, to) {
		return -1
	}
	count := 0
	for n := from; n < to; n++ {
		if set.open(n) {
			count++
		}
	}
	return count
}

// validSpan reports whether two days are in order and near enough to each other.
func validSpan(from int, to int) bool {
	return validDay(from) && validDay(to) && between(to-from, 0, MaxSpan)
}

// holidaysOf returns the set of valid holidays.
func holidaysOf(h []int) (holidaySet, bool) {
	if !ascendingDays(h, MaxHolidays) {
		return nil, false
	}
	set := make(holidaySet, len(h))
	for _, n := range h {
		set[n] = true
	}
	return set, true
}

// ascendingDays reports whether numbers are days in ascending order, and not more than a limit.
func ascendingDays(list []int, most int) bool {
	if !allValid(list, 0, most, validDay) {
		return false
	}
	for i := 1; i < len(list); i++ {
		if list[i] <= list[i-1] {
			return false
		}
	}
	return true
}

// open reports whether a valid day is a business day.
func (s holidaySet) open(n int) bool {
	return WeekdayOf(n) < saturday && !s[n]
}

// seek returns the first business day from a day on, going by steps of 1 or -1; -1 if the days end before it.
func (s holidaySet) seek(n int, step int) int {
	for ; validDay(n); n += step {
		if s.open(n) {
			return n
		}
	}
	return -1
}

// seekInMonth goes back only if going on leaves the month, or the days end there.
func (s holidaySet) seekInMonth(n int) int {
	next := s.seek(n, 1)
	if sameMonth(n, next) {
		return next
	}
	return s.seek(n, -1)
}

// sameMonth reports whether two numbers are days of one month of one year.
func sameMonth(a int, b int) bool {
	x, okX := DateOf(a)
	y, okY := DateOf(b)
	return okX && okY && x.Year == y.Year && x.Month == y.Month
}
