package tests

import (
	"fmt"
	"math/rand/v2"
	"regexp"
	"slices"
	"strconv"
	"strings"
	"testing"

	"loop.example/bonddesk/impl"
)

// The forms of lines; (?s) lets a point stand for a newline as well.
var (
	settingLine = regexp.MustCompile(`(?s)^(bond|day) (.+)$`)
	tradeLine   = regexp.MustCompile(`^(buy|sell) ([^ ]*) ([^ ]*)$`)
	priceLine   = regexp.MustCompile(`^price ([^ ]*)$`)
	numberWord  = regexp.MustCompile(`^(0|[1-9][0-9]{0,4})$`)
)

// questions are lines that change nothing.
var questions = []string{"accrued", "total", "position", "gain", "price 0", "price 2500", "price x", "price 100000"}

// whatLines are lines that are no commands, most of which are almost right.
var whatLines = []string{
	"", " ", "  ", "help", "what", "ok", "no", "bond", "bond ", "day", "day ", "bond4.25 2020-01-15 2030-01-15 6", "4.25 2020-01-15 2030-01-15 6", "2020-04-15",
	"accrued ", " accrued", "accrued 1", "accrued  ", "Accrued", "ACCRUED", "accrue", "accrueds", "accrued\n", "accrued\t", "\x00accrued",
	"total ", " total", "total 1", "total total", "Total", "totals", "total\n", "position ", " position", "position 1", "positions", "position 2020-04-15", "gain ", " gain", "gain 1", "gains", "Gain",
	"buy", "buy ", "buy 10", "buy 10 9950 ", "buy 10 9950 1", "buy  10 9950", " buy 10 9950", "buy 10  9950", "buy\t10\t9950", "Buy 10 9950", "buys 10 9950", "buy,10,9950",
	"sell", "sell ", "sell 10", "sell 10 9950 ", "sell 10 9950 1", "sell  10 9950", " sell 10 9950", "sell 10  9950", "Sell 10 9950", "sell10 9950",
	"price", "price  ", "price 0 ", "price  0", "price 0 0", " price 0", "Price 0", "prices 0", "price\t0", " bond 4.25 2020-01-15 2030-01-15 6", " day 2020-04-15", "Day 2020-04-15", "Bond 4.25 2020-01-15 2030-01-15 6", "bond\t4.25 2020-01-15 2030-01-15 6", "\xff", "buy\u00a010 9950",
}

// noWords are words that are no numbers of commands.
var noWords = []string{
	"", "x", "-1", "-10", "+1", "+10", "-0", "00", "01", "007", "00010", "000000", "010", "100000", "123456", "999999", "1000000", "18446744073709551617", "18446744073709551626", "9223372036854775808", "-18446744073709551606", "184467440737095516160",
	"1.0", "1.", ".1", "1e1", "0x1", "1_0", "1,0", "1x", "x1", "１", "٣", "1\n", "\n1", "1\t", "1\x00", "\xff", "ten", "1\u00a0",
}

// plainSession is a session that reads lines by their forms.
type plainSession struct {
	bond   *impl.Bond
	n      int
	trades []impl.Trade
}

// plainOutput is RunSession.
func plainOutput(lines []string) string {
	s := plainSession{}
	out := ""
	for i, line := range lines {
		if i < 20 {
			out += s.answer(line) + "\n"
		}
	}
	return out
}

// answer is the output of one line.
func (s *plainSession) answer(line string) string {
	if x := settingLine.FindStringSubmatch(line); x != nil {
		return s.set(x[1], x[2])
	}
	if x := tradeLine.FindStringSubmatch(line); x != nil {
		return s.trade(x[1], x[2], x[3])
	}
	if x := priceLine.FindStringSubmatch(line); x != nil {
		return s.price(x[1])
	}
	switch line {
	case "accrued":
		if s.runs() {
			return fmt.Sprint(plainAccrued(*s.bond, plainSchedule(s.bond.Start, s.bond.End, s.bond.Months), s.n))
		}
		return "no"
	case "total":
		if s.bond != nil {
			return fmt.Sprint(paymentsBehind(*s.bond, -1))
		}
		return "no"
	case "position":
		position := 0
		for _, x := range s.trades {
			if x.Day <= s.n {
				position += x.Many
			}
		}
		return fmt.Sprint(position)
	case "gain":
		_, gain := plainLots(s.trades)
		return fmt.Sprint(gain)
	}
	return "what"
}

// runs reports whether there is a bond that runs on the day.
func (s *plainSession) runs() bool {
	return s.bond != nil && s.bond.Start <= s.n && s.n < s.bond.End
}

// set sets the bond or the day.
func (s *plainSession) set(name string, text string) string {
	if name == "bond" {
		b, ok := plainParse(text)
		if !ok {
			return "no"
		}
		s.bond = &b
		return "ok"
	}
	n, ok := plainDay(text)
	if !ok {
		return "no"
	}
	s.n = n
	return "ok"
}

// trade appends a trade.
func (s *plainSession) trade(name string, many string, price string) string {
	if !numberWord.MatchString(many) || !numberWord.MatchString(price) || len(s.trades) == 16 || len(s.trades) > 0 && s.trades[len(s.trades)-1].Day > s.n {
		return "no"
	}
	m, _ := strconv.Atoi(many)
	p, _ := strconv.Atoi(price)
	if m < 1 || m > 9999 || p < 1 || p > 50000 {
		return "no"
	}
	if name == "sell" {
		m = -m
	}
	s.trades = append(s.trades, impl.Trade{Day: s.n, Many: m, Price: p})
	return "ok"
}

// price is the price with a yield.
func (s *plainSession) price(yield string) string {
	if !s.runs() || !numberWord.MatchString(yield) {
		return "no"
	}
	n, _ := strconv.Atoi(yield)
	r := plainPrice(*s.bond, s.n, n)
	return fmt.Sprint(r.Low, " ", r.High)
}

// randomLine returns a line, most often one that is a command, and sometimes one that is almost one.
func randomLine(r *rand.Rand) string {
	pick := func(list ...string) string { return list[r.IntN(len(list))] }
	bond := func() string {
		return pick("4.25 2020-01-15 2030-01-15 6", "4.00 2020-03-01 2021-01-15 6", "0.00 2020-01-01 2022-01-01 12", "30.00 1990-01-01 1993-05-01 1", "4.25 2020-01-15 2020-01-15 6", "4.2 2020-01-15 2030-01-15 6", "", " ")
	}
	date := func() string {
		return pick("1990-01-01", "1990-01-02", "2020-01-15", "2020-04-15", "2020-07-14", "2020-07-15", "2021-01-14", "2021-01-15", "2089-12-31", "2023-02-29", "2090-01-01", "", " ")
	}
	number := func() string {
		return pick("1", "2", "3", "10", "100", "9950", "9999", "10000", "50000", "50001", "99999", "0", "00", "100000", "x", "-1", "")
	}
	line := ""
	switch r.IntN(10) {
	case 0:
		line = "bond " + bond()
	case 1, 2:
		line = "day " + date()
	case 3, 4:
		line = "buy " + number() + " " + number()
	case 5, 6:
		line = "sell " + number() + " " + number()
	case 7:
		line = "price " + number()
	case 8:
		line = pick("accrued", "total", "position", "gain")
	case 9:
		line = pick(whatLines...)
	}
	if r.IntN(12) == 0 {
		at := r.IntN(len(line) + 1)
		line = line[:at] + pick(" ", "0", "x", "") + line[min(at+r.IntN(2), len(line)):]
	}
	return line
}

// randomSessions returns lines of sessions of all lengths up to more than the limit.
func randomSessions() [][]string {
	r := rand.New(rand.NewPCG(26, 1))
	var out [][]string
	for size := range 24 {
		for range 120 {
			lines := make([]string, size)
			for i := range lines {
				lines[i] = randomLine(r)
			}
			out = append(out, lines)
		}
	}
	return out
}

// lastLine returns the last line of an output.
func lastLine(output string) string {
	list := strings.Split(strings.TrimSuffix(output, "\n"), "\n")
	return list[len(list)-1]
}

// checkSession checks the output of lines, given by the answers.
func checkSession(t *testing.T, lines []string, answers ...string) {
	t.Helper()
	want := ""
	for _, answer := range answers {
		want += answer + "\n"
	}
	if got := impl.RunSession(lines); got != want {
		t.Errorf("RunSession(%q) = %q, want %q", lines, got, want)
	}
}

func TestSessionLimits(t *testing.T) {
	if impl.MaxLines != 20 {
		t.Errorf("MaxLines = %d", impl.MaxLines)
	}
	checkSession(t, nil)
	checkSession(t, []string{})
	for _, size := range []int{1, 19, 20, 21, 22, 1000} {
		checkSession(t, slices.Repeat([]string{"gain"}, size), slices.Repeat([]string{"0"}, min(size, 20))...)
		checkSession(t, make([]string, size), slices.Repeat([]string{"what"}, min(size, 20))...)
	}
	// The line behind the limit changes nothing, and the last one within it does.
	lines := append(slices.Repeat([]string{"position"}, 18), "buy 3 100", "position", "help")
	checkSession(t, lines, append(slices.Repeat([]string{"0"}, 18), "ok", "3")...)
	lines = append(slices.Repeat([]string{"position"}, 19), "buy 3 100", "position")
	checkSession(t, lines, append(slices.Repeat([]string{"0"}, 19), "ok")...)
}

func TestSessionByHand(t *testing.T) {
	checkSession(t, []string{"accrued", "total", "price 0", "position", "gain", "bond 4.25 2020-01-15 2030-01-15 6", "accrued", "total", "price 0", "day 2020-04-15", "accrued", "price 0", "price 20000", "day 2030-01-15", "accrued", "price 0", "total"},
		"no", "no", "no", "0", "0", "ok", "no", "14260", "no", "ok", "107", "14260 14260", "10313 10314", "ok", "no", "no", "14260")
	// A line that fails changes neither the bond nor the day.
	checkSession(t, []string{"bond 4.00 2020-03-01 2021-01-15 6", "day 2020-07-16", "bond x", "bond  ", "day x", "day 2023-02-29", "day 2090-01-01", "total", "accrued", "bond 4.00 2020-03-01 2021-01-15 7", "price 0"},
		"ok", "ok", "no", "no", "no", "no", "no", "10349", "1", "no", "10200 10200")
	// The day begins at 0, on which the bond starts.
	checkSession(t, []string{"bond 30.00 1990-01-01 1990-02-01 1", "accrued", "price 0", "price 99999", "day 1990-01-31", "accrued", "day 1990-01-01", "accrued"},
		"ok", "0", "10250 10250", "9318 9319", "ok", "242", "ok", "0")
	// The bounds of a yield with five digits; the greatest yield has six.
	checkSession(t, []string{"bond 5.00 2020-01-15 2021-01-15 12", "day 2020-01-15", "price 99999", "price 97500", "price 100000", "price 00000", "price 0"},
		"ok", "ok", "9545 9546", "9567 9568", "no", "no", "10500 10500")
}

func TestTradesOfSessionsByHand(t *testing.T) {
	checkSession(t, []string{"sell 10 9950", "position", "buy 4 9900", "gain", "day 2020-04-15", "buy 10 10000", "position", "gain", "day 2020-04-14", "position", "gain", "sell 1 5", "buy 1 5", "day 2020-04-15", "position", "sell 4 9000", "gain", "position"},
		"ok", "-10", "ok", "200", "ok", "ok", "4", "-100", "ok", "-6", "-100", "no", "no", "ok", "4", "ok", "-4100", "0")
	// A bond is not needed, and a new one leaves the trades.
	checkSession(t, []string{"buy 3 1", "bond 4.25 2020-01-15 2030-01-15 6", "position", "buy 9999 50000", "sell 9999 50000", "buy 10000 1", "sell 10000 1", "buy 1 50001", "sell 1 50001", "buy 0 1", "sell 0 1", "buy 1 0", "sell 1 0", "position", "gain"},
		"ok", "ok", "3", "ok", "ok", "no", "no", "no", "no", "no", "no", "no", "no", "3", "149997")
	// The most trades, and one more, which changes nothing.
	lines := append(slices.Repeat([]string{"buy 2 100"}, 16), "buy 2 100", "sell 2 100", "position", "gain")
	checkSession(t, lines, append(slices.Repeat([]string{"ok"}, 16), "no", "no", "32", "0")...)
}

func TestLinesThatAreNoCommands(t *testing.T) {
	for _, line := range append(whatLines, strings.Repeat(" ", 100000), strings.Repeat("buy ", 100000), strings.Repeat("x", 100000)) {
		lines := []string{"bond 4.25 2020-01-15 2030-01-15 6", "day 2020-04-15", "buy 7 100", line, "accrued", "total", "position", "gain", "price 0"}
		want := "ok\nok\nok\nwhat\n107\n14260\n7\n0\n14260 14260\n"
		if got := impl.RunSession(lines); got != want {
			t.Errorf("RunSession with %.50q = %q, want %q", line, got, want)
		}
	}
}

func TestWordsThatAreNoNumbers(t *testing.T) {
	for _, word := range append(noWords, strings.Repeat("1", 100000), strings.Repeat("0", 99999)+"1") {
		lines := []string{"bond 4.25 2020-01-15 2030-01-15 6", "day 2020-04-15", "buy " + word + " 100", "buy 100 " + word, "sell " + word + " 100", "sell 100 " + word, "buy " + word + " " + word, "price " + word, "position", "gain", "accrued"}
		want := "ok\nok\nno\nno\nno\nno\nno\nno\n0\n0\n107\n"
		if got := impl.RunSession(lines); got != want {
			t.Errorf("RunSession with %.50q = %q, want %q", word, got, want)
		}
	}
}

func TestTextsThatAreNoSettings(t *testing.T) {
	begin := []string{"bond 4.25 2020-01-15 2030-01-15 6", "day 2020-04-15"}
	check := func(line string) {
		t.Helper()
		if got, want := impl.RunSession(append(slices.Clone(begin), line, "accrued", "total")), "ok\nok\nno\n107\n14260\n"; got != want {
			t.Errorf("RunSession with %q = %q, want %q", line, got, want)
		}
	}
	for _, s := range noBonds {
		if s != "" {
			check("bond " + s)
		}
	}
	for _, s := range noDates {
		if s != "" {
			check("day " + s)
		}
	}
}

func TestSessionsAreExact(t *testing.T) {
	seen := map[string]int{}
	for _, lines := range randomSessions() {
		got, want := impl.RunSession(lines), plainOutput(lines)
		if got != want {
			t.Fatalf("RunSession(%q) = %q, want %q", lines, got, want)
		}
		for _, answer := range strings.Split(got, "\n") {
			seen[answer]++
		}
	}
	if seen["ok"] < 5000 || seen["no"] < 5000 || seen["what"] < 2000 || len(seen) < 150 {
		t.Errorf("%d answers, ok %d, no %d, what %d", len(seen), seen["ok"], seen["no"], seen["what"])
	}
}

func TestLinesThatAreAlmostCommands(t *testing.T) {
	for _, line := range append([]string{"bond 4.00 2020-03-01 2021-01-15 6", "day 2020-07-16", "buy 12 9950", "sell 305 99"}, questions...) {
		for _, other := range almost(line) {
			lines := []string{"bond 4.25 2020-01-15 2030-01-15 6", "day 2020-04-15", "buy 7 100", other, "accrued", "total", "position", "gain"}
			if got, want := impl.RunSession(lines), plainOutput(lines); got != want {
				t.Fatalf("RunSession with %q = %q, want %q", other, got, want)
			}
		}
	}
}

func TestP124SessionsRunLineByLine(t *testing.T) {
	for _, lines := range randomSessions() {
		all := impl.RunSession(lines)
		for k := range len(lines) + 1 {
			got := impl.RunSession(lines[:k])
			if !strings.HasPrefix(all, got) || strings.Count(got, "\n") != min(k, 20) {
				t.Fatalf("RunSession(%q) = %q, of all lines %q", lines[:k], got, all)
			}
		}
	}
}

func TestP125QuestionsChangeNothing(t *testing.T) {
	seen := map[string]bool{}
	for i, lines := range randomSessions() {
		if len(lines) > 15 {
			continue
		}
		asked := slices.Clone(lines)
		for k := range 4 {
			asked = append(asked, questions[(i+k)%len(questions)])
		}
		for _, line := range []string{"total", "accrued", "position", "gain"} {
			got, want := lastLine(impl.RunSession(append(asked, line))), lastLine(impl.RunSession(append(slices.Clone(lines), line)))
			if got != want {
				t.Fatalf("%s is %s behind %q, and %s behind %q", line, got, asked, want, lines)
			}
			seen[want] = true
		}
	}
	if len(seen) < 50 {
		t.Errorf("only %d answers", len(seen))
	}
}

func TestP158BondsReplaceBonds(t *testing.T) {
	bonds := append(someBonds()[:300], textBonds()...)
	for i, lines := range randomSessions() {
		if len(lines) > 18 {
			continue
		}
		b := bonds[i%len(bonds)]
		output := impl.RunSession(append(slices.Clone(lines), "bond "+plainBond(b), "total"))
		if want := fmt.Sprintf("ok\n%d\n", paymentsBehind(b, -1)); !strings.HasSuffix(output, want) || lastLine(output) != fmt.Sprint(impl.TotalOf(b)) {
			t.Fatalf("RunSession(%q with the bond %v) = %q, want %q at the end", lines, b, output, want)
		}
	}
}

func TestSessionsStay(t *testing.T) {
	lines := []string{"bond 4.25 2020-01-15 2030-01-15 6", "day 2020-04-15", "buy 10 9950", "sell 4 10020", "position", "gain", "accrued"}
	want := slices.Clone(lines)
	first, second := impl.RunSession(lines), impl.RunSession(lines)
	if first != second || first != "ok\nok\nok\nok\n6\n280\n107\n" || !slices.Equal(lines, want) {
		t.Errorf("RunSession = %q, and then %q, and leaves %q", first, second, lines)
	}
}
