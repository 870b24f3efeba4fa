package tests

import (
	"fmt"
	"math/big"
	"strings"
	"testing"

	"loop.example/bonddesk/impl"
)

// otherQuotes are numbers that are no prices in 64ths.
var otherQuotes = append([]int{-1, -2, -63, -64, -6433, impl.MaxQuote + 1, impl.MaxQuote + 2, impl.MaxQuote + 64, 2 * impl.MaxQuote}, extremes...)

// noQuotes are texts of no price, most of which are almost right.
var noQuotes = []string{
	"", "-", "+", "--", "-+", "0", "00", "0-", "0-+", "99", "99-", "99-+", "99+", "99-5", "99-5+", "99-005", "99-050", "99-0", "99-0+", "99-32", "99-32+", "99-63", "99-64", "99-99",
	"099-05", "00-00", "00-05", "0099-05", "000-00", "-05", "-5", "-05+", "+05",
	// Numbers with signs.
	"+99-05", "-99-05", "--99-05", "99-+05", "99--05", "99-+5", "99--5", "-0-00", "+0-00", "0-+0", "0--0", "-1-00", "-0-01", "0--1+", "99-05-", "99+05", "99+-05", "99-05+-", "99-05-+", "99-+05+",
	// A 64th more or less than there may be.
	"99-05++", "99-05+ +", "99-05 +", "99-05+ ", "99-05+0", "99-05+1", "99-05.5", "99-055", "99-05½", "99-05*", "+99-05+", "99+-05+",
	"300-00+", "300-01", "300-31", "300-31+", "301-00", "1000-00", "9999-31+", "19200", "19200-00",
	// Other signs and digits.
	" 99-05", "99-05 ", "99 -05", "99- 05", "9 9-05", "99 05", "99.05", "99/05", "99:05", "99,05", "99_05", "9_9-05", "99-0_5", "99‑05", "99–05", "99−05", "99-05\n", "99-05\x00", "\x0099-05", "99-05\r\n", "\t99-05", "\ufeff99-05",
	"٩٩-٠٥", "99-٠٥", "９９-05", "99-0５", "99－05", "99-05＋", "0x63-05", "6e1-05", "1e2-00", "99-O5", "99-l5", "nan", "\xff", "99-\xff5", "99-05\x80",
	"99-05 99-05", "99-0599-05", "99-05,99-06", "99-05+99-05+", "99-05/06", "\"99-05\"", "(99-05)", "$99-05", "99-05%",
	// Numbers that pass those of 64 bits, where they would be 0, 1 or 99 if they began anew.
	"18446744073709551616-00", "18446744073709551617-00", "18446744073709551715-05", "288230376151711744-00", "288230376151711843-05", "99-18446744073709551621", "99-9223372036854775813", "9223372036854775807-00", "9223372036854775808-00",
}

// plainQuote is FormatQuote of a valid price.
func plainQuote(n int) string {
	return fmt.Sprintf("%d-%02d%s", n/64, n%64/2, strings.Repeat("+", n%2))
}

// allQuotes returns the price of each text that has one.
func allQuotes() map[string]int {
	out := map[string]int{}
	for n := range impl.MaxQuote + 1 {
		out[plainQuote(n)] = n
	}
	return out
}

// shortTexts calls a function with all texts of at most a length that consist of some signs.
func shortTexts(signs string, length int, f func(s string)) {
	level := []string{""}
	for range length + 1 {
		var longer []string
		for _, s := range level {
			f(s)
			for i := range len(signs) {
				longer = append(longer, s+signs[i:i+1])
			}
		}
		level = longer
	}
}

// checkQuotes returns a function that checks ParseQuote of a text.
func checkQuotes(t *testing.T) func(s string) {
	all := allQuotes()
	return func(s string) {
		t.Helper()
		want, ok := all[s]
		if !ok {
			want = -1
		}
		if got := impl.ParseQuote(s); got != want {
			t.Fatalf("ParseQuote(%q) = %d, want %d", s, got, want)
		}
	}
}

func TestQuoteLimits(t *testing.T) {
	if impl.MaxQuote != 19200 {
		t.Errorf("MaxQuote = %d", impl.MaxQuote)
	}
	if got := impl.FormatQuote(19200); got != "300-00" {
		t.Errorf("FormatQuote(19200) = %q", got)
	}
	if got := impl.ParseQuote("300-00"); got != 19200 {
		t.Errorf("ParseQuote of the greatest price = %d", got)
	}
	if got := impl.QuoteCents(19200); got != 30000 {
		t.Errorf("QuoteCents(19200) = %d", got)
	}
}

func TestInvalidQuotes(t *testing.T) {
	for _, n := range otherQuotes {
		if got := impl.FormatQuote(n); got != "" {
			t.Errorf("FormatQuote(%d) = %q", n, got)
		}
		if got := impl.QuoteCents(n); got != -1 {
			t.Errorf("QuoteCents(%d) = %d", n, got)
		}
	}
}

func TestQuotesByHand(t *testing.T) {
	for _, x := range []struct {
		n     int
		text  string
		cents int
	}{
		{0, "0-00", 0}, {1, "0-00+", 2}, {2, "0-01", 3}, {3, "0-01+", 5}, {19, "0-09+", 30}, {20, "0-10", 31}, {21, "0-10+", 33}, {31, "0-15+", 48}, {32, "0-16", 50}, {33, "0-16+", 52},
		{62, "0-31", 97}, {63, "0-31+", 98}, {64, "1-00", 100}, {65, "1-00+", 102}, {639, "9-31+", 998}, {640, "10-00", 1000},
		{6336, "99-00", 9900}, {6337, "99-00+", 9902}, {6346, "99-05", 9916}, {6347, "99-05+", 9917}, {6399, "99-31+", 9998}, {6400, "100-00", 10000}, {6433, "100-16+", 10052},
		// A half of a hundredth is rounded up: 12.5, 37.5, 62.5 and 87.5.
		{8, "0-04", 13}, {24, "0-12", 38}, {40, "0-20", 63}, {56, "0-28", 88}, {6408, "100-04", 10013},
		{19199, "299-31+", 29998}, {19200, "300-00", 30000},
	} {
		if got := impl.FormatQuote(x.n); got != x.text {
			t.Errorf("FormatQuote(%d) = %q, want %q", x.n, got, x.text)
		}
		if got := impl.ParseQuote(x.text); got != x.n {
			t.Errorf("ParseQuote(%q) = %d, want %d", x.text, got, x.n)
		}
		if got := impl.QuoteCents(x.n); got != x.cents {
			t.Errorf("QuoteCents(%d) = %d, want %d", x.n, got, x.cents)
		}
	}
}

func TestTextsOfNoQuote(t *testing.T) {
	for _, s := range append(noQuotes, strings.Repeat("9", 100000)+"-05", strings.Repeat("0", 100000), strings.Repeat("-", 100000), "99-05"+strings.Repeat("+", 100000)) {
		if got := impl.ParseQuote(s); got != -1 {
			t.Errorf("ParseQuote(%.50q) = %d", s, got)
		}
	}
}

func TestQuotesThatAreAlmostRight(t *testing.T) {
	check := checkQuotes(t)
	for _, n := range append(spaced(0, impl.MaxQuote, 947), 1, 2, 19, 20, 63, 64, 65, 639, 640, 6346, 6347, 6399, 6400, 6433, 19199) {
		for _, s := range almost(plainQuote(n)) {
			check(s)
		}
	}
}

func TestShortQuotes(t *testing.T) {
	shortTexts("0123-+", 6, checkQuotes(t))
	shortTexts("03-+ 9.", 5, checkQuotes(t))
}

func TestQuotesOfAllParts(t *testing.T) {
	check := checkQuotes(t)
	for whole := range 1011 {
		for _, half := range []string{"", "+", "++", "-", "0"} {
			for rest := range 110 {
				check(fmt.Sprintf("%d-%02d%s", whole, rest, half))
			}
			check(fmt.Sprintf("%d-%d%s", whole, whole%10, half))
			check(fmt.Sprintf("0%d-%02d%s", whole, whole%32, half))
			check(fmt.Sprintf("%d%02d%s", whole, whole%32, half))
		}
	}
}

func TestP108QuotesLoseNothing(t *testing.T) {
	for n := range impl.MaxQuote + 1 {
		if got := impl.ParseQuote(impl.FormatQuote(n)); got != n {
			t.Fatalf("ParseQuote(%q) = %d, want %d", impl.FormatQuote(n), got, n)
		}
	}
}

func TestP109PricesHaveOneQuote(t *testing.T) {
	seen := 0
	check := func(s string) {
		if n := impl.ParseQuote(s); n >= 0 {
			seen++
			if got := impl.FormatQuote(n); got != s {
				t.Fatalf("FormatQuote(%d) = %q, of %q", n, got, s)
			}
		}
	}
	for n := range impl.MaxQuote + 1 {
		check(plainQuote(n))
		for _, s := range []string{"0", " ", "+", "-"} {
			check(s + plainQuote(n))
			check(plainQuote(n) + s)
		}
	}
	shortTexts("0123-+", 6, check)
	for _, s := range almost("100-16+") {
		check(s)
	}
	if seen <= impl.MaxQuote {
		t.Errorf("ParseQuote accepts %d texts", seen)
	}
}

func TestP110QuotesAreNearlyCents(t *testing.T) {
	for n := range impl.MaxQuote + 1 {
		got, exactly := impl.QuoteCents(n), big.NewRat(int64(100*n), 64)
		distance := new(big.Rat).Sub(big.NewRat(int64(got), 1), exactly)
		if distance.Abs(distance).Cmp(big.NewRat(1, 2)) > 0 || got != rounded(exactly) {
			t.Fatalf("QuoteCents(%d) = %d, exactly %v", n, got, exactly)
		}
		if n%64 == 0 && got != n/64*100 {
			t.Fatalf("QuoteCents(%d) = %d", n, got)
		}
	}
}

func TestP154QuotesRiseInSteps(t *testing.T) {
	for n := range impl.MaxQuote {
		if a, b := impl.QuoteCents(n), impl.QuoteCents(n+1); a < 0 || b < a {
			t.Fatalf("QuoteCents of %d and the next price are %d and %d", n, a, b)
		}
		if n+64 > impl.MaxQuote {
			continue
		}
		if a, b := impl.QuoteCents(n), impl.QuoteCents(n+64); b != a+100 {
			t.Fatalf("QuoteCents of %d and of 64 more are %d and %d", n, a, b)
		}
	}
}
