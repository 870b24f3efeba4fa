package impl

// MaxPrincipal is the largest amount that bears interest.
const MaxPrincipal = 100000000

// MaxRate is the largest rate, in hundredths of a percent.
const MaxRate = 3000

// CountFixed is the kind that divides days by 365.
const CountFixed = 0

// CountMoney is the kind that divides days by 360.
const CountMoney = 1

// CountThirty is the kind in which all months have 30 days.
const CountThirty = 2

// CountYear is the kind that looks at leap years.
const CountYear = 3

// YearPart returns the part of a year between two days.
func YearPart(kind int, from int, to int) (Ratio, bool) {
	counts := [...]func(from int, to int) (num int, den int){
		CountFixed:  countFixed,
		CountMoney:  countMoney,
		CountThirty: countThirty,
		CountYear:   countYear,
	}
	if !between(kind, 0, len(counts)-1) || !validSpan(from, to) {
		return Ratio{}, false
	}
	return MakeRatio(counts[kind](from, to))
}

// InterestOf returns the interest of an amount.
func InterestOf(amount int, rate int, kind int, from int, to int) int {
	part, ok := YearPart(kind, from, to)
	if !ok || !between(amount, 0, MaxPrincipal) || !validRate(rate) {
		return -1
	}
	return roundedQuotient(amount*rate*part.Num, 10000*part.Den)
}

// validRate reports whether a number is a rate in hundredths of a percent.
func validRate(n int) bool {
	return between(n, 0, MaxRate)
}

func countFixed(from int, to int) (num int, den int) {
	return to - from, 365
}

func countMoney(from int, to int) (num int, den int) {
	return to - from, 360
}

func countThirty(from int, to int) (num int, den int) {
	a, _ := DateOf(from)
	b, _ := DateOf(to)
	a.Day = min(a.Day, 30)
	if a.Day == 30 {
		b.Day = min(b.Day, 30)
	}
	return 360*(b.Year-a.Year) + 30*(b.Month-a.Month) + b.Day - a.Day, 360
}

func countYear(from int, to int) (num int, den int) {
	leap := leapDays(from, to)
	return leap*365 + (to-from-leap)*366, 365 * 366
}

// leapDays returns the number of days in leap years from a day on before another one.
func leapDays(from int, to int) int {
	first, _ := DateOf(from)
	last, _ := DateOf(to)
	days := 0
	for year := first.Year; year <= last.Year; year++ {
		if isLeap(year) {
			days += min(to, yearStart(year+1)) - max(from, yearStart(year))
		}
	}
	return days
}
