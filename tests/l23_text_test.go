package tests

import (
	"fmt"
	"math/rand/v2"
	"regexp"
	"slices"
	"strconv"
	"strings"
	"testing"
	"time"

	"loop.example/bonddesk/impl"
)

// bondPattern is what texts of bonds look like; their numbers may still be those of no bond.
var bondPattern = regexp.MustCompile(`^(0|[1-9][0-9]?)\.([0-9]{2}) ([0-9-]{10}) ([0-9-]{10}) (1|3|6|12)$`)

// noDates are texts of no date, most of which are almost right.
var noDates = []string{
	"", "-", "--", "2020", "2020-02", "2020-02-", "2020--03", "-02-03", "2020-02-3", "2020-2-03", "2020-2-3", "2020-002-03", "2020-02-003", "02020-02-03", "20-02-03", "020-02-03", "12020-02-03", "20200203", "2020-0203", "202002-03",
	// Dates that do not exist, or are too early or too late.
	"2023-02-29", "2100-02-29", "1900-02-29", "2020-02-30", "2020-02-00", "2020-00-03", "2020-13-03", "2020-04-31", "2020-01-32", "2020-12-32", "2020-99-99", "0000-00-00", "1989-12-31", "2090-01-01", "9999-12-31", "0001-01-01", "0000-01-01",
	// Numbers with signs.
	"+2020-02-03", "-2020-02-03", "2020-+2-03", "2020--2-03", "2020-02-+3", "2020-02--3", "2020-+02-03", "2020--02-03", "2020-02-+03", "2020-02--03", "2020-02-03-", "2020-02-03+", "--2020-02-03", "+2020-+2-+3",
	// Other signs and digits.
	"2020/02/03", "2020.02.03", "2020 02 03", "2020:02:03", "2020_02_03", "2020−02−03", "2020–02–03", "2020‑02-03", "2020-02/03", " 2020-02-03", "2020-02-03 ", "2020 -02-03", "2020- 2-03", "2020-02- 3", "2020-02-03\n", "2020-02-03\x00", "\x002020-02-03", "\t2020-02-03", "\ufeff2020-02-03",
	"２０２０-02-03", "2020-0２-03", "٢٠٢٠-٠٢-٠٣", "2020-O2-03", "2020-02-0E", "2020-0x2-03", "2e3-02-03", "2_020-02-03", "2020-Feb-03", "03-02-2020", "02-03-2020", "2020-02-03T", "2020-02-03T00:00:00Z", "2020-02-03-01", "2020-02-032020-02-03", "2020-034", "2020-W06-1", "\xff", "2020-02-\xff3",
	// Numbers that pass those of 64 bits, where they would be the right ones if they began anew.
	"18446744073709553636-02-03", "2020-18446744073709551618-03", "2020-02-18446744073709551619", "9223372036854775807-02-03", "9223372036854775808-02-03",
}

// noBonds are texts of no bond, most of which are almost right.
var noBonds = []string{
	"", " ", "    ", "4.25", "4.25 2020-01-15", "4.25 2020-01-15 2030-01-15", "4.25 2020-01-15 2030-01-15 ", " 2020-01-15 2030-01-15 6", "2020-01-15 2030-01-15 6", "4.25  2030-01-15 6", "4.25 2020-01-15  6", "4.25 2030-01-15 6", "4.25 2020-01-15 6",
	// Rates that are almost right.
	"4.2 2020-01-15 2030-01-15 6", "4.250 2020-01-15 2030-01-15 6", "4 2020-01-15 2030-01-15 6", "4. 2020-01-15 2030-01-15 6", ".25 2020-01-15 2030-01-15 6", "425 2020-01-15 2030-01-15 6", "04.25 2020-01-15 2030-01-15 6", "00.25 2020-01-15 2030-01-15 6", "4,25 2020-01-15 2030-01-15 6", "4.25% 2020-01-15 2030-01-15 6", "4..25 2020-01-15 2030-01-15 6", "4.25. 2020-01-15 2030-01-15 6", "0.0 2020-01-15 2030-01-15 6", "0 2020-01-15 2030-01-15 6", "00.00 2020-01-15 2030-01-15 6", "3.125 2020-01-15 2030-01-15 6",
	"30.01 2020-01-15 2030-01-15 6", "31.00 2020-01-15 2030-01-15 6", "99.99 2020-01-15 2030-01-15 6", "100.00 2020-01-15 2030-01-15 6", "29.100 2020-01-15 2030-01-15 6",
	// Numbers with signs.
	"+4.25 2020-01-15 2030-01-15 6", "-4.25 2020-01-15 2030-01-15 6", "4.+25 2020-01-15 2030-01-15 6", "4.-25 2020-01-15 2030-01-15 6", "4.+5 2020-01-15 2030-01-15 6", "4.-5 2020-01-15 2030-01-15 6", "-0.00 2020-01-15 2030-01-15 6", "+0.00 2020-01-15 2030-01-15 6", "-0.25 2020-01-15 2030-01-15 6", "4.25 2020-01-15 2030-01-15 +6", "4.25 2020-01-15 2030-01-15 -6", "4.25 +2020-01-15 2030-01-15 6", "4.25 2020-01-15 -2030-01-15 6", "4.25 2020-+1-15 2030-01-15 6",
	// Months that are almost right.
	"4.25 2020-01-15 2030-01-15 0", "4.25 2020-01-15 2030-01-15 2", "4.25 2020-01-15 2030-01-15 4", "4.25 2020-01-15 2030-01-15 5", "4.25 2020-01-15 2030-01-15 7", "4.25 2020-01-15 2030-01-15 9", "4.25 2020-01-15 2030-01-15 11", "4.25 2020-01-15 2030-01-15 13", "4.25 2020-01-15 2030-01-15 24", "4.25 2020-01-15 2030-01-15 60", "4.25 2020-01-15 2030-01-15 06", "4.25 2020-01-15 2030-01-15 012", "4.25 2020-01-15 2030-01-15 6.0", "4.25 2020-01-15 2030-01-15 six", "4.25 2020-01-15 2030-01-15 x", "4.25 2020-01-15 2030-01-15 6m",
	// Dates that are almost right.
	"4.25 2020-1-15 2030-01-15 6", "4.25 2020-01-15 2030-1-15 6", "4.25 2020-01-32 2030-01-15 6", "4.25 2023-02-29 2030-01-15 6", "4.25 2020-01-15 2023-02-29 6", "4.25 1989-12-31 2000-01-15 6", "4.25 2080-01-15 2090-01-01 6", "4.25 2020/01/15 2030/01/15 6", "4.25 10971 14624 6",
	// Dates in the wrong order, and too many periods.
	"4.25 2020-01-15 2020-01-15 6", "4.25 2030-01-15 2020-01-15 6", "4.25 2020-01-16 2020-01-15 6", "4.25 2020-01-15 2030-01-15 1", "4.25 2020-01-14 2030-01-15 3", "4.25 2020-01-15 2040-01-16 6", "4.25 2020-01-15 2060-01-16 12", "4.25 1990-01-01 2089-12-31 12",
	// Other signs between and around.
	" 4.25 2020-01-15 2030-01-15 6", "4.25 2020-01-15 2030-01-15 6 ", "4.25  2020-01-15 2030-01-15 6", "4.25 2020-01-15  2030-01-15 6", "4.25 2020-01-15 2030-01-15  6", "4.25\t2020-01-15 2030-01-15 6", "4.25 2020-01-15 2030-01-15\t6", "4.25 2020-01-15 2030-01-15 6\n", "\n4.25 2020-01-15 2030-01-15 6", "4.25 2020-01-15 2030-01-15 6\x00", "4.25\u00a02020-01-15 2030-01-15 6", "4.25,2020-01-15,2030-01-15,6", "4.25-2020-01-15-2030-01-15-6", "4.252020-01-152030-01-156", "\ufeff4.25 2020-01-15 2030-01-15 6", "４.25 2020-01-15 2030-01-15 6", "4.25 2020-01-15 2030-01-15 ６", "4٫25 2020-01-15 2030-01-15 6", "4·25 2020-01-15 2030-01-15 6",
	"4.25 2020-01-15 2030-01-15 6 6", "4.25 4.25 2020-01-15 2030-01-15 6", "4.25 2020-01-15 2030-01-15 6 4.25 2020-01-15 2030-01-15 6", "bond 4.25 2020-01-15 2030-01-15 6", "6 2030-01-15 2020-01-15 4.25", "2020-01-15 2030-01-15 6 4.25", "2020-01-15 4.25 2030-01-15 6", "4.25 6 2020-01-15 2030-01-15",
	// Numbers that pass those of 64 bits, where they would be the right ones if they began anew.
	"18446744073709551620.25 2020-01-15 2030-01-15 6", "4.18446744073709551641 2020-01-15 2030-01-15 6", "4.25 2020-01-15 2030-01-15 18446744073709551622", "4.25 18446744073709553636-01-15 2030-01-15 6", "184467440737095516.20 2020-01-15 2030-01-15 6", "0.18446744073709552041 2020-01-15 2030-01-15 6",
}

// plainDate is FormatDate of a valid date.
func plainDate(d impl.Date) string {
	return fmt.Sprintf("%04d-%02d-%02d", d.Year, d.Month, d.Day)
}

// plainBond is FormatBond of a valid bond.
func plainBond(b impl.Bond) string {
	return fmt.Sprintf("%d.%02d %s %s %d", b.Rate/100, b.Rate%100, plainDate(calendarDate(b.Start)), plainDate(calendarDate(b.End)), b.Months)
}

// badDates returns dates that are not valid.
func badDates() []impl.Date {
	out := []impl.Date{{}, {Year: 2023, Month: 2, Day: 29}, {Year: 2020, Month: 2, Day: 30}, {Year: 2020, Month: 4, Day: 31}, {Year: 1989, Month: 12, Day: 31}, {Year: 2090, Month: 1, Day: 1}, {Month: 2, Day: 3}, {Year: 20, Month: 2, Day: 3}}
	for _, n := range append([]int{-1, 0, 13, 32, 100, -2020}, extremes...) {
		out = append(out, impl.Date{Year: n, Month: 2, Day: 3}, impl.Date{Year: 2020, Month: n, Day: 3})
		if n != 13 {
			out = append(out, impl.Date{Year: 2020, Month: 2, Day: n})
		}
	}
	return out
}

// allDates returns the date of each text that has one.
func allDates() map[string]impl.Date {
	out := map[string]impl.Date{}
	for _, n := range allDays() {
		d := calendarDate(n)
		out[plainDate(d)] = d
	}
	return out
}

// plainDay returns the number of a date with a text, by the library's calendar.
func plainDay(s string) (int, bool) {
	d, err := time.Parse("2006-01-02", s)
	if err != nil || d.Year() < impl.MinYear || d.Year() > impl.MaxYear {
		return 0, false
	}
	return day(d.Year(), int(d.Month()), d.Day()), true
}

// plainParse is ParseBond.
func plainParse(s string) (impl.Bond, bool) {
	parts := bondPattern.FindStringSubmatch(s)
	if parts == nil {
		return impl.Bond{}, false
	}
	rate, _ := strconv.Atoi(parts[1] + parts[2])
	months, _ := strconv.Atoi(parts[5])
	start, okStart := plainDay(parts[3])
	end, okEnd := plainDay(parts[4])
	if rate > 3000 || !okStart || !okEnd || plainSchedule(start, end, months) == nil {
		return impl.Bond{}, false
	}
	return impl.Bond{Start: start, End: end, Months: months, Rate: rate}, true
}

// textBonds returns valid bonds with all lengths of rates and months, and those at the limits.
func textBonds() []impl.Bond {
	out := slices.Concat(dailyBonds, longBonds, []impl.Bond{{Start: day(2020, 1, 15), End: day(2030, 1, 15), Months: 6, Rate: 425}})
	for _, rate := range []int{0, 1, 9, 10, 25, 99, 100, 101, 110, 999, 1000, 1001, 2999, 3000} {
		out = append(out, impl.Bond{Start: day(2020, 1, 31), End: day(2023, 2, 28), Months: terms[rate%4], Rate: rate})
	}
	return out
}

// checkBond checks ParseBond of a text.
func checkBond(t *testing.T, s string) {
	t.Helper()
	want, ok := plainParse(s)
	if got, gotOK := impl.ParseBond(s); gotOK != ok || got != want {
		t.Fatalf("ParseBond(%q) = %v, %v, want %v, %v", s, got, gotOK, want, ok)
	}
}

func TestDatesByHand(t *testing.T) {
	for _, x := range []struct {
		d    impl.Date
		text string
	}{
		{impl.Date{Year: 2020, Month: 2, Day: 3}, "2020-02-03"}, {impl.Date{Year: 1990, Month: 1, Day: 1}, "1990-01-01"}, {impl.Date{Year: 2089, Month: 12, Day: 31}, "2089-12-31"},
		{impl.Date{Year: 2000, Month: 2, Day: 29}, "2000-02-29"}, {impl.Date{Year: 2024, Month: 10, Day: 9}, "2024-10-09"}, {impl.Date{Year: 2024, Month: 9, Day: 10}, "2024-09-10"}, {impl.Date{Year: 2001, Month: 11, Day: 30}, "2001-11-30"},
	} {
		if got := impl.FormatDate(x.d); got != x.text {
			t.Errorf("FormatDate(%v) = %q, want %q", x.d, got, x.text)
		}
		if got, ok := impl.ParseDate(x.text); !ok || got != x.d {
			t.Errorf("ParseDate(%q) = %v, %v, want %v", x.text, got, ok, x.d)
		}
	}
}

func TestDatesAreExact(t *testing.T) {
	for s, d := range allDates() {
		if got := impl.FormatDate(d); got != s {
			t.Fatalf("FormatDate(%v) = %q, want %q", d, got, s)
		}
		if got, ok := impl.ParseDate(s); !ok || got != d {
			t.Fatalf("ParseDate(%q) = %v, %v, want %v", s, got, ok, d)
		}
	}
}

func TestInvalidDatesHaveNoText(t *testing.T) {
	for _, d := range badDates() {
		if got := impl.FormatDate(d); got != "" {
			t.Errorf("FormatDate(%v) = %q", d, got)
		}
	}
}

func TestTextsOfNoDate(t *testing.T) {
	for _, s := range append(noDates, strings.Repeat("2", 100000)+"-02-03", strings.Repeat("2020-02-03", 10000), strings.Repeat("-", 100000)) {
		if got, ok := impl.ParseDate(s); ok || got != (impl.Date{}) {
			t.Errorf("ParseDate(%.50q) = %v, %v", s, got, ok)
		}
	}
}

func TestDatesThatAreAlmostRight(t *testing.T) {
	all := allDates()
	for _, n := range append(spaced(0, impl.MaxDay, 1447), day(2020, 2, 29), day(2000, 2, 29), day(2023, 2, 28), day(2024, 10, 9), day(2011, 11, 11), day(1999, 12, 31)) {
		for _, s := range almost(plainDate(calendarDate(n))) {
			want, ok := all[s]
			if got, gotOK := impl.ParseDate(s); gotOK != ok || got != want {
				t.Fatalf("ParseDate(%q) = %v, %v, want %v, %v", s, got, gotOK, want, ok)
			}
		}
	}
}

func TestDatesOfAllParts(t *testing.T) {
	all := allDates()
	for _, year := range []int{0, 1, 99, 999, 1989, 1990, 2000, 2023, 2024, 2089, 2090, 2100, 9999, 10000} {
		for month := range 101 {
			for d := range 101 {
				s := fmt.Sprintf("%d-%02d-%02d", year, month, d)
				want, ok := all[s]
				if got, gotOK := impl.ParseDate(s); gotOK != ok || got != want {
					t.Fatalf("ParseDate(%q) = %v, %v, want %v, %v", s, got, gotOK, want, ok)
				}
			}
		}
	}
}

func TestBondTextsByHand(t *testing.T) {
	for _, x := range []struct {
		b    impl.Bond
		text string
	}{
		{impl.Bond{Start: day(2020, 1, 15), End: day(2030, 1, 15), Months: 6, Rate: 425}, "4.25 2020-01-15 2030-01-15 6"},
		{impl.Bond{Start: 0, End: 1, Months: 1}, "0.00 1990-01-01 1990-01-02 1"}, {impl.Bond{Start: 0, End: 1, Months: 3, Rate: 1}, "0.01 1990-01-01 1990-01-02 3"},
		{impl.Bond{Start: day(2049, 12, 31), End: impl.MaxDay, Months: 12, Rate: 3000}, "30.00 2049-12-31 2089-12-31 12"},
		{impl.Bond{Start: day(2024, 2, 29), End: day(2025, 2, 28), Months: 12, Rate: 10}, "0.10 2024-02-29 2025-02-28 12"},
		{impl.Bond{Start: day(2024, 2, 29), End: day(2025, 2, 28), Months: 6, Rate: 100}, "1.00 2024-02-29 2025-02-28 6"}, {impl.Bond{Start: day(2024, 2, 29), End: day(2025, 2, 28), Months: 1, Rate: 1205}, "12.05 2024-02-29 2025-02-28 1"},
		// The most periods.
		{impl.Bond{Start: day(2020, 1, 15), End: day(2030, 1, 15), Months: 3, Rate: 999}, "9.99 2020-01-15 2030-01-15 3"}, {impl.Bond{Start: day(2020, 1, 15), End: day(2060, 1, 15), Months: 12, Rate: 1000}, "10.00 2020-01-15 2060-01-15 12"},
	} {
		if got := impl.FormatBond(x.b); got != x.text {
			t.Errorf("FormatBond(%v) = %q, want %q", x.b, got, x.text)
		}
		if got, ok := impl.ParseBond(x.text); !ok || got != x.b {
			t.Errorf("ParseBond(%q) = %v, %v, want %v", x.text, got, ok, x.b)
		}
	}
}

func TestBondTextsAreExact(t *testing.T) {
	for _, b := range append(someBonds(), textBonds()...) {
		if got, want := impl.FormatBond(b), plainBond(b); got != want {
			t.Fatalf("FormatBond(%v) = %q, want %q", b, got, want)
		}
	}
	for rate := range 3001 {
		b := impl.Bond{Start: 10, End: 400, Months: terms[rate%4], Rate: rate}
		if got, want := impl.FormatBond(b), plainBond(b); got != want {
			t.Fatalf("FormatBond(%v) = %q, want %q", b, got, want)
		}
		checkBond(t, plainBond(b))
	}
}

func TestInvalidBondsHaveNoText(t *testing.T) {
	for _, b := range badBonds() {
		if got := impl.FormatBond(b); got != "" {
			t.Errorf("FormatBond(%v) = %q", b, got)
		}
		// A text that looks like that of the bond is refused as well.
		if got, ok := impl.ParseBond(plainBond(b)); ok || got != (impl.Bond{}) {
			t.Errorf("ParseBond(%q) = %v, %v", plainBond(b), got, ok)
		}
	}
}

func TestTextsOfNoBond(t *testing.T) {
	for _, s := range append(noBonds, strings.Repeat("4.25 ", 20000), strings.Repeat("4", 100000)+".25 2020-01-15 2030-01-15 6", "4.25 2020-01-15 2030-01-15 6"+strings.Repeat(" ", 100000)) {
		if got, ok := impl.ParseBond(s); ok || got != (impl.Bond{}) {
			t.Errorf("ParseBond(%.50q) = %v, %v", s, got, ok)
		}
	}
}

func TestBondTextsThatAreAlmostRight(t *testing.T) {
	for _, b := range textBonds() {
		for _, s := range almost(plainBond(b)) {
			checkBond(t, s)
		}
	}
}

func TestBondTextsOfOtherWords(t *testing.T) {
	rates := []string{"4.25", "0.00", "30.00", "30.01", "04.25", "4.2", "+4.25", "-4.25", "", "4"}
	dates := []string{"2020-01-15", "2021-07-15", "2019-12-31", "2021-02-29", "2021-7-15", "+2020-01-15", "-2020-01-15", "1989-12-31", "2090-01-01", ""}
	months := []string{"1", "3", "6", "12", "2", "06", "+6", "-6", "", "6 "}
	for _, rate := range rates {
		for _, start := range dates {
			for _, end := range dates {
				for _, many := range months {
					checkBond(t, rate+" "+start+" "+end+" "+many)
				}
			}
		}
	}
}

func TestP111TextsOfDatesLoseNothing(t *testing.T) {
	for _, n := range allDays() {
		d := calendarDate(n)
		if got, ok := impl.ParseDate(impl.FormatDate(d)); !ok || got != d {
			t.Fatalf("ParseDate(%q) = %v, %v, want %v", impl.FormatDate(d), got, ok, d)
		}
	}
}

func TestP112DatesHaveOneText(t *testing.T) {
	seen := 0
	for _, n := range append(someDays(), day(2020, 10, 9)) {
		for _, s := range almost(plainDate(calendarDate(n))) {
			d, ok := impl.ParseDate(s)
			if !ok {
				continue
			}
			seen++
			if got := impl.FormatDate(d); got != s {
				t.Fatalf("FormatDate(%v) = %q, of %q", d, got, s)
			}
		}
	}
	if seen == 0 {
		t.Error("ParseDate accepts no text")
	}
}

func TestP113TextsAreOrderedLikeDates(t *testing.T) {
	for _, n := range allDays()[:impl.MaxDay] {
		if a, b := impl.FormatDate(calendarDate(n)), impl.FormatDate(calendarDate(n+1)); a == "" || a >= b {
			t.Fatalf("FormatDate of day %d and of the next one are %q and %q", n, a, b)
		}
	}
	days := someDays()
	for _, a := range days {
		for _, b := range days {
			if got := strings.Compare(impl.FormatDate(calendarDate(a)), impl.FormatDate(calendarDate(b))); got != sign(a-b) {
				t.Fatalf("the texts of days %d and %d compare as %d", a, b, got)
			}
		}
	}
}

func TestP114TextsOfBondsLoseNothing(t *testing.T) {
	for _, b := range append(someBonds(), textBonds()...) {
		if got, ok := impl.ParseBond(impl.FormatBond(b)); !ok || got != b {
			t.Fatalf("ParseBond(%q) = %v, %v, want %v", impl.FormatBond(b), got, ok, b)
		}
	}
}

func TestP115BondsHaveOneText(t *testing.T) {
	seen := 0
	for _, b := range textBonds() {
		for _, s := range almost(plainBond(b)) {
			got, ok := impl.ParseBond(s)
			if !ok {
				continue
			}
			seen++
			if text := impl.FormatBond(got); text != s {
				t.Fatalf("FormatBond(%v) = %q, of %q", got, text, s)
			}
		}
	}
	if seen == 0 {
		t.Error("ParseBond accepts no text")
	}
}

// randomText returns the text of a bond with up to three changes, or signs in no order.
func randomText(r *rand.Rand) string {
	signs := "0123456789.- +x\xff"
	text := ""
	if r.IntN(10) == 0 {
		for range r.IntN(40) {
			text += signs[r.IntN(len(signs)):][:1]
		}
		return text
	}
	text = plainBond(randomBond(r))
	for range r.IntN(4) {
		at := r.IntN(len(text))
		put := signs[r.IntN(10):][:1]
		if r.IntN(4) == 0 {
			put = signs[r.IntN(len(signs)):][:1]
		}
		text = text[:at] + []string{put, put, put, put + text[at:at+1], ""}[r.IntN(5)] + text[at+1:]
	}
	return text
}

func TestP163EveryTextIsABondsOrNone(t *testing.T) {
	r := rand.New(rand.NewPCG(23, 163))
	seen := map[bool]int{}
	for range 20000 {
		s := randomText(r)
		checkBond(t, s)
		b, ok := impl.ParseBond(s)
		if ok && impl.FormatBond(b) != s || !ok && b != (impl.Bond{}) {
			t.Fatalf("ParseBond(%q) = %v, %v", s, b, ok)
		}
		seen[ok]++
	}
	if seen[true] < 3000 || seen[false] < 3000 {
		t.Errorf("bonds: %v", seen)
	}
}
