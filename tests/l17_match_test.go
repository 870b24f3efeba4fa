package tests

import (
	"math/big"
	"math/rand/v2"
	"slices"
	"testing"

	"loop.example/bonddesk/impl"
)

// match is sales and purchases that are matched with a tolerance.
type match struct {
	a, b      []impl.Note
	tolerance int
}

// otherTolerances are numbers that are no tolerances.
var otherTolerances = append([]int{-1, -100, impl.MaxPrice + 1, 2 * impl.MaxPrice}, extremes...)

// notesWith returns notes of the same day and number with some prices.
func notesWith(prices ...int) []impl.Note {
	var out []impl.Note
	for _, price := range prices {
		out = append(out, impl.Note{Day: 3, Many: 10, Price: price})
	}
	return out
}

// shortMatches returns all sales and purchases of at most three of these prices, which often are at equal distances.
func shortMatches() []match {
	lists := [][]impl.Note{nil}
	for from, size := 0, 1; size <= 3; size++ {
		to := len(lists)
		for _, list := range lists[from:to] {
			for _, price := range []int{98, 100, 101, 102} {
				lists = append(lists, append(slices.Clone(list), notesWith(price)...))
			}
		}
		from = to
	}
	var out []match
	for _, a := range lists {
		for _, b := range lists {
			for _, tolerance := range []int{0, 1, 2, 4} {
				out = append(out, match{a, b, tolerance})
			}
		}
	}
	return out
}

// randomNotes returns valid notes with few or many days, numbers and prices.
func randomNotes(r *rand.Rand, size int, variety int) []impl.Note {
	list := make([]impl.Note, size)
	for i := range list {
		list[i] = impl.Note{Day: r.IntN(min(variety, 3)), Many: 1 + r.IntN(min(variety, 2)), Price: 1 + r.IntN(min(5*variety, impl.MaxPrice))}
	}
	return list
}

// goodMatches returns valid matches, among them those at the limits.
func goodMatches() []match {
	least, most := impl.Note{Day: 0, Many: 1, Price: 1}, impl.Note{Day: impl.MaxDay, Many: impl.MaxMany, Price: impl.MaxPrice}
	all := func(n impl.Note) []impl.Note { return slices.Repeat([]impl.Note{n}, 10) }
	out := append(shortMatches(), match{all(least), all(least), 0}, match{all(most), all(most), impl.MaxPrice}, match{all(least), all(most), impl.MaxPrice}, match{all(most), nil, 5}, match{nil, all(most), 5})
	r := rand.New(rand.NewPCG(17, 1))
	for i := range 6000 {
		variety := []int{1, 2, 4, 20, 10000}[i%5]
		out = append(out, match{randomNotes(r, r.IntN(11), variety), randomNotes(r, r.IntN(11), variety), r.IntN(min(5*variety, impl.MaxPrice) + 1)})
	}
	return out
}

// badNotes returns notes that are not valid, each by one of its numbers.
func badNotes() []impl.Note {
	out := []impl.Note{{}}
	for _, n := range outsideDays {
		out = append(out, impl.Note{Day: n, Many: 10, Price: 100})
	}
	for _, n := range append([]int{0, -1, -10, impl.MaxMany + 1, 1000000}, extremes...) {
		out = append(out, impl.Note{Day: 3, Many: n, Price: 100})
	}
	for _, n := range noPledgePrices {
		out = append(out, impl.Note{Day: 3, Many: 10, Price: n})
	}
	return out
}

// badMatches returns matches that are not valid, each by one note, by too many of them, or by the tolerance.
func badMatches() []match {
	good := notesWith(100, 101, 100)
	lists := [][]impl.Note{slices.Repeat(good[:1], 11), slices.Repeat(good[:1], 100)}
	for _, n := range badNotes() {
		lists = append(lists, []impl.Note{n})
		for k := range len(good) + 1 {
			lists = append(lists, slices.Insert(slices.Clone(good), k, n))
		}
	}
	var out []match
	for _, list := range lists {
		out = append(out, match{list, good, 5}, match{good, list, 5}, match{list, list, 5}, match{list, nil, 5}, match{nil, list, 5})
	}
	for _, n := range otherTolerances {
		out = append(out, match{good, good, n}, match{nil, good, n}, match{good, nil, n}, match{nil, nil, n})
	}
	return out
}

// apart returns the distance of two numbers.
func apart(a int, b int) int {
	return (a - b) * sign(a-b)
}

// agree reports whether a sale and a purchase can be matched.
func agree(a impl.Note, b impl.Note, tolerance int) bool {
	return a.Day == b.Day && a.Many == b.Many && apart(a.Price, b.Price) <= tolerance
}

// plainMatch is MatchNotes of a valid match: each sale sorts all purchases that are left by their differences, and then
// by their indices.
func plainMatch(m match) []int {
	var out []int
	for _, sale := range m.a {
		var left []int
		for k, n := range m.b {
			if agree(sale, n, m.tolerance) && !slices.Contains(out, k) {
				left = append(left, k)
			}
		}
		slices.SortFunc(left, func(i int, k int) int {
			if x, y := apart(m.b[i].Price, sale.Price), apart(m.b[k].Price, sale.Price); x != y {
				return x - y
			}
			return i - k
		})
		out = append(out, append(left, -1)[0])
	}
	return out
}

func TestNoteLimits(t *testing.T) {
	if impl.MaxNotes != 10 {
		t.Errorf("MaxNotes = %d", impl.MaxNotes)
	}
	most := slices.Repeat([]impl.Note{{Day: 36524, Many: 9999, Price: 50000}}, 10)
	if got := impl.MatchNotes(most, most, 0); !slices.Equal(got, spaced(0, 9, 1)) {
		t.Errorf("MatchNotes of the greatest notes = %v", got)
	}
	least := slices.Repeat([]impl.Note{{Day: 0, Many: 1, Price: 1}}, 10)
	if got := impl.MatchNotes(least, least, 50000); !slices.Equal(got, spaced(0, 9, 1)) {
		t.Errorf("MatchNotes of the least notes = %v", got)
	}
}

func TestInvalidMatches(t *testing.T) {
	for _, m := range badMatches() {
		if got := impl.MatchNotes(m.a, m.b, m.tolerance); got != nil {
			t.Errorf("MatchNotes(%v, %v, %d) = %v", m.a, m.b, m.tolerance, got)
		}
		if got := impl.OpenNotes(m.a, m.b, m.tolerance); got != nil {
			t.Errorf("OpenNotes(%v, %v, %d) = %v", m.a, m.b, m.tolerance, got)
		}
	}
}

func TestMatchesAreExact(t *testing.T) {
	for _, m := range goodMatches() {
		if got, want := impl.MatchNotes(m.a, m.b, m.tolerance), plainMatch(m); !slices.Equal(got, want) {
			t.Fatalf("MatchNotes(%v, %v, %d) = %v, want %v", m.a, m.b, m.tolerance, got, want)
		}
	}
}

func TestMatchesByHand(t *testing.T) {
	for _, x := range []struct {
		sales, purchases []int
		tolerance        int
		want, open       []int
	}{
		{nil, nil, 0, nil, nil},
		{nil, []int{100, 90}, 0, nil, []int{100, 90}},
		{[]int{100, 90}, nil, 0, []int{-1, -1}, nil},
		// The smallest difference, not the first purchase within the tolerance.
		{[]int{100}, []int{103, 101, 98}, 3, []int{1}, []int{103, 98}},
		// Of equal differences the first one, also if one price is lower and the other one higher.
		{[]int{100}, []int{101, 99}, 1, []int{0}, []int{99}},
		{[]int{100}, []int{99, 101}, 1, []int{0}, []int{101}},
		// Equal prices are matched in order.
		{[]int{100, 100, 100}, []int{100, 100}, 0, []int{0, 1, -1}, nil},
		{[]int{100, 100}, []int{101, 100, 99, 100}, 0, []int{1, 3}, []int{101, 99}},
		// The tolerance is allowed, and one more is not.
		{[]int{100}, []int{105}, 5, []int{0}, nil},
		{[]int{100}, []int{95}, 5, []int{0}, nil},
		{[]int{100}, []int{106, 94}, 5, []int{-1}, []int{106, 94}},
		{[]int{1}, []int{50000}, 49999, []int{0}, nil},
		{[]int{1}, []int{50000}, 49998, []int{-1}, []int{50000}},
		{[]int{50000}, []int{1}, 50000, []int{0}, nil},
		// An earlier sale takes the purchase that a later one would need.
		{[]int{100, 99}, []int{99}, 1, []int{0, -1}, nil},
		{[]int{100, 99}, []int{99, 98}, 1, []int{0, 1}, nil},
		{[]int{100, 99}, []int{99, 101}, 1, []int{0, -1}, []int{101}},
	} {
		a, b := notesWith(x.sales...), notesWith(x.purchases...)
		if got := impl.MatchNotes(a, b, x.tolerance); !slices.Equal(got, x.want) {
			t.Errorf("MatchNotes %v with %v within %d = %v, want %v", x.sales, x.purchases, x.tolerance, got, x.want)
		}
		if got := impl.OpenNotes(a, b, x.tolerance); !slices.Equal(got, notesWith(x.open...)) {
			t.Errorf("OpenNotes %v with %v within %d = %v, want %v", x.sales, x.purchases, x.tolerance, got, x.open)
		}
	}
}

func TestOtherDaysAndNumbersAreNotMatched(t *testing.T) {
	sale := impl.Note{Day: 3, Many: 10, Price: 100}
	b := []impl.Note{{Day: 10, Many: 3, Price: 100}, {Day: 3, Many: 9, Price: 100}, {Day: 4, Many: 10, Price: 100}, {Day: 3, Many: 11, Price: 100}, {Day: 2, Many: 10, Price: 100}}
	if got := impl.MatchNotes([]impl.Note{sale}, b, impl.MaxPrice); !slices.Equal(got, []int{-1}) {
		t.Errorf("MatchNotes(%v, %v) = %v", sale, b, got)
	}
	if got := impl.OpenNotes([]impl.Note{sale}, b, impl.MaxPrice); !slices.Equal(got, b) {
		t.Errorf("OpenNotes(%v, %v) = %v", sale, b, got)
	}
}

func TestOpenNotesAreExact(t *testing.T) {
	for _, m := range goodMatches() {
		matched := plainMatch(m)
		var want []impl.Note
		for k, n := range m.b {
			if !slices.Contains(matched, k) {
				want = append(want, n)
			}
		}
		if got := impl.OpenNotes(m.a, m.b, m.tolerance); !slices.Equal(got, want) {
			t.Fatalf("OpenNotes(%v, %v, %d) = %v, want %v", m.a, m.b, m.tolerance, got, want)
		}
	}
}

// lateNotes returns valid notes whose settlement may be late.
func lateNotes() []impl.Note {
	var out []impl.Note
	for _, many := range []int{1, 2, 7, 500, 9998, 9999} {
		for _, price := range pledgePrices {
			out = append(out, impl.Note{Day: many % 5, Many: many, Price: price})
		}
	}
	return append(out, impl.Note{Day: impl.MaxDay, Many: 9999, Price: 50000})
}

func TestFailCostIsRoundedUp(t *testing.T) {
	for _, n := range lateNotes() {
		for days := range 31 {
			for _, rate := range rates {
				exact := new(big.Rat).Mul(big.NewRat(int64(n.Many*n.Price*days), 360), big.NewRat(int64(rate), 10000))
				if got, want := impl.FailCost(n, days, rate), roundedUp(exact); got != want {
					t.Fatalf("FailCost(%v, %d, %d) = %d, want %d", n, days, rate, got, want)
				}
			}
		}
	}
}

func TestFailCostByHand(t *testing.T) {
	for _, x := range []struct {
		many, price, days, rate, want int
	}{
		{10, 10000, 3, 300, 25}, {1, 1, 1, 1, 1}, {1, 1, 0, 3000, 0}, {9999, 50000, 30, 0, 0}, {360, 10000, 1, 1, 1}, {360, 10001, 1, 1, 2},
		{360, 9999, 1, 1, 1}, {9999, 50000, 30, 3000, 12498750}, {1000, 36, 10, 100, 10}, {1001, 36, 10, 100, 11},
	} {
		n := impl.Note{Many: x.many, Price: x.price}
		if got := impl.FailCost(n, x.days, x.rate); got != x.want {
			t.Errorf("FailCost(%v, %d, %d) = %d, want %d", n, x.days, x.rate, got, x.want)
		}
	}
}

func TestFailCostOfInvalidArguments(t *testing.T) {
	for _, n := range badNotes() {
		for _, days := range []int{0, 1, 30} {
			if got := impl.FailCost(n, days, 300); got != -1 {
				t.Errorf("FailCost(%v, %d, 300) = %d", n, days, got)
			}
		}
	}
	good := impl.Note{Day: 3, Many: 10, Price: 100}
	for _, days := range append([]int{-1, -30, 31, 1000}, extremes...) {
		if got := impl.FailCost(good, days, 300); got != -1 {
			t.Errorf("FailCost(%v, %d, 300) = %d", good, days, got)
		}
	}
	for _, rate := range noRates {
		if got := impl.FailCost(good, 3, rate); got != -1 {
			t.Errorf("FailCost(%v, 3, %d) = %d", good, rate, got)
		}
		if got := impl.FailCost(good, 0, rate); got != -1 {
			t.Errorf("FailCost(%v, 0, %d) = %d", good, rate, got)
		}
	}
}

func TestP88MatchesAgree(t *testing.T) {
	matched := 0
	for _, m := range goodMatches() {
		got := impl.MatchNotes(m.a, m.b, m.tolerance)
		if len(got) != len(m.a) {
			t.Fatalf("MatchNotes(%v, %v, %d) = %v", m.a, m.b, m.tolerance, got)
		}
		for i, k := range got {
			if k == -1 {
				continue
			}
			if k < 0 || k >= len(m.b) || !agree(m.a[i], m.b[k], m.tolerance) || slices.Contains(got[:i], k) {
				t.Fatalf("MatchNotes(%v, %v, %d) = %v", m.a, m.b, m.tolerance, got)
			}
			matched++
		}
	}
	if matched < 10000 {
		t.Errorf("only %d notes are matched", matched)
	}
}

func TestP89OpenNotesCannotBeMatched(t *testing.T) {
	both := 0
	for _, m := range goodMatches() {
		open := impl.OpenNotes(m.a, m.b, m.tolerance)
		for i, k := range impl.MatchNotes(m.a, m.b, m.tolerance) {
			if k >= 0 {
				continue
			}
			for _, n := range open {
				if agree(m.a[i], n, m.tolerance) {
					t.Fatalf("of %v and %v, %v and %v are not matched within %d", m.a, m.b, m.a[i], n, m.tolerance)
				}
				both++
			}
		}
	}
	if both < 10000 {
		t.Errorf("only %d pairs of notes are open", both)
	}
}

func TestP90NotesAreMatchedOrOpen(t *testing.T) {
	for _, m := range goodMatches() {
		matches, rest := impl.MatchNotes(m.a, m.b, m.tolerance), impl.OpenNotes(m.a, m.b, m.tolerance)
		for k, n := range m.b {
			if slices.Contains(matches, k) {
				continue
			}
			if len(rest) == 0 || rest[0] != n {
				t.Fatalf("%d of %v is neither matched nor open: %v, %v", k, m.b, matches, rest)
			}
			rest = rest[1:]
		}
		if len(rest) > 0 {
			t.Fatalf("of %v matched with %v within %d too many are open: %v", m.b, m.a, m.tolerance, rest)
		}
	}
}

func TestP91NotesAgreeWithThemselves(t *testing.T) {
	for _, m := range goodMatches() {
		for _, tolerance := range []int{0, m.tolerance, impl.MaxPrice} {
			if open := impl.OpenNotes(m.b, m.b, tolerance); len(open) != 0 {
				t.Fatalf("OpenNotes(%v, itself, %d) = %v", m.b, tolerance, open)
			}
		}
	}
}

func TestP92LateSettlementCosts(t *testing.T) {
	for _, n := range lateNotes() {
		for _, rate := range rates {
			before := impl.FailCost(n, 0, rate)
			if before != 0 {
				t.Fatalf("FailCost(%v, 0, %d) = %d", n, rate, before)
			}
			for days := 1; days <= 30; days++ {
				got := impl.FailCost(n, days, rate)
				if got < before || rate > 0 && got == 0 {
					t.Fatalf("FailCost(%v, %d, %d) = %d behind %d", n, days, rate, got, before)
				}
				before = got
			}
		}
	}
}

func TestNotesStay(t *testing.T) {
	a, b := notesWith(100, 102, 7), notesWith(103, 101, 98, 102)
	wantA, wantB := slices.Clone(a), slices.Clone(b)
	matches, again := impl.MatchNotes(a[:2], b[:3], 1), impl.MatchNotes(a[:2], b[:3], 1)
	open, more := impl.OpenNotes(a[:1], b[:3], 1), impl.OpenNotes(a[:1], b[:3], 1)
	matches[0], open[0] = 99, impl.Note{Day: 1, Many: 1, Price: 1}
	_, _ = append(matches, 98), append(open, open[0])
	if !slices.Equal(again, []int{1, 0}) || !slices.Equal(more, notesWith(103, 98)) {
		t.Errorf("results of equal calls share memory: %v, %v", again, more)
	}
	if !slices.Equal(a, wantA) || !slices.Equal(b, wantB) {
		t.Errorf("matching leaves %v of %v, %v of %v", a, wantA, b, wantB)
	}
}
