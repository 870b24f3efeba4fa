package tests

import (
	"math"
	"math/big"
	"time"

	"loop.example/bonddesk/impl"
)

// extremes are numbers far outside every limit, with which careless arithmetic overflows.
var extremes = []int{math.MinInt, math.MinInt + 1, math.MaxInt - 1, math.MaxInt}

// outsideDays are numbers that are no days.
var outsideDays = append([]int{-1, impl.MaxDay + 1, -366, impl.MaxDay + 366}, extremes...)

// day returns the number of a date, by the library's calendar.
func day(year int, month int, d int) int {
	first := time.Date(impl.MinYear, 1, 1, 0, 0, 0, 0, time.UTC)
	return int(time.Date(year, time.Month(month), d, 0, 0, 0, 0, time.UTC).Sub(first).Hours()) / 24
}

// calendarDate returns the date of a number, by the library's calendar.
func calendarDate(n int) impl.Date {
	t := time.Date(impl.MinYear, 1, 1+n, 0, 0, 0, 0, time.UTC)
	return impl.Date{Year: t.Year(), Month: int(t.Month()), Day: t.Day()}
}

// calendarDays returns the number of days of a month, by the library's calendar.
func calendarDays(year int, month int) int {
	return time.Date(year, time.Month(month)+1, 0, 0, 0, 0, 0, time.UTC).Day()
}

// dateAt returns the date of a valid number, by the program.
func dateAt(n int) impl.Date {
	d, _ := impl.DateOf(n)
	return d
}

// allDays returns all days.
func allDays() []int {
	return spaced(0, impl.MaxDay, 1)
}

// spaced returns the numbers from a first one to a last one at a distance, and the last one.
func spaced(first int, last int, distance int) []int {
	var out []int
	for n := first; n < last; n += distance {
		out = append(out, n)
	}
	return append(out, last)
}

// someDays returns days around the ends of months and years, leap days, and the first and last days.
func someDays() []int {
	var out []int
	for _, n := range allDays() {
		d := calendarDate(n)
		nearYear := d.Month == 1 && d.Day <= 2 || d.Month == 12 && d.Day >= 30
		nearLeap := d.Month == 2 && d.Day >= 27 || d.Month == 3 && d.Day <= 2
		if n < 40 || n > impl.MaxDay-40 || d.Year >= 1999 && d.Year <= 2001 && (nearYear || nearLeap) || d.Year%12 == 0 && (nearYear || nearLeap) || n%397 == 0 {
			out = append(out, n)
		}
	}
	return out
}

// sign returns -1, 0 or 1 for a number.
func sign(n int) int {
	switch {
	case n < 0:
		return -1
	case n > 0:
		return 1
	}
	return 0
}

// exact returns a ratio as a number of the library.
func exact(r impl.Ratio) *big.Rat {
	return big.NewRat(int64(r.Num), int64(r.Den))
}

// ratioOf returns a number of the library as a ratio, and whether that is valid.
func ratioOf(x *big.Rat) (impl.Ratio, bool) {
	limit := big.NewInt(impl.MaxTerm)
	if x.Num().CmpAbs(limit) > 0 || x.Denom().Cmp(limit) > 0 {
		return impl.Ratio{}, false
	}
	return impl.Ratio{Num: int(x.Num().Int64()), Den: int(x.Denom().Int64())}, true
}

// rounded returns a number of the library rounded to the nearest whole one, halves up.
func rounded(x *big.Rat) int {
	return roundedDown(new(big.Rat).Add(x, big.NewRat(1, 2)))
}

// roundedDown returns a number of the library rounded down.
func roundedDown(x *big.Rat) int {
	return int(new(big.Int).Div(x.Num(), x.Denom()).Int64())
}

// roundedUp returns a number of the library rounded up.
func roundedUp(x *big.Rat) int {
	return -roundedDown(new(big.Rat).Neg(x))
}

// almost returns a text and all texts that differ from it by one byte that is left out, put in or another one, by two
// neighbours that are exchanged, or by a part that is missing or comes twice.
func almost(text string) []string {
	out := []string{text, text + text}
	for i := range len(text) + 1 {
		before, behind := text[:i], text[i:]
		for c := range 256 {
			put := string([]byte{byte(c)})
			out = append(out, before+put+behind)
			if behind != "" {
				out = append(out, before+put+behind[1:])
			}
		}
		out = append(out, before, behind, before+before+behind)
		if behind != "" {
			out = append(out, before+behind[1:])
		}
		if len(behind) > 1 {
			out = append(out, before+behind[1:2]+behind[:1]+behind[2:])
		}
	}
	return out
}
