package tests

import (
	"math/rand/v2"
	"slices"
	"testing"

	"loop.example/bonddesk/impl"
)

// edgeLists are valid edges of ladders, some of them next to each other, and those at the limits.
func edgeLists() [][]int {
	return [][]int{
		nil, {}, {0}, {1}, {5}, {impl.MaxDay}, {0, impl.MaxDay}, {4, 5, 6}, {6, 9}, {0, 1, 2, 3, 4, 5, 6, 7, 8, 9}, {3, 7, 8, 20, 21, 22, 40, 100, 5000, 36524},
		spaced(36515, 36524, 1), {10, 20, 30, 1000, 20000},
	}
}

// badEdges returns edges that are not valid.
func badEdges() [][]int {
	lists := [][]int{{6, 6}, {7, 6}, {1, 2, 2}, {1, 3, 2}, {2, 1, 3}, {36524, 0}, spaced(0, 10, 1), spaced(5, 200, 1), slices.Repeat([]int{5}, 10)}
	for _, n := range outsideDays {
		lists = append(lists, []int{n}, []int{n, 5}, []int{5, n}, []int{5, 7, n}, []int{n, 5, 7})
	}
	return lists
}

// goodPayments returns valid payments in any order, among them those at the limits and several on one day.
func goodPayments() [][]impl.Flow {
	paid, received := impl.Flow{Day: 5, Amount: -1000000000}, impl.Flow{Day: 6, Amount: 1000000000}
	lists := [][]impl.Flow{
		nil, {}, {{Day: 0, Amount: 0}}, {{Day: 0, Amount: -7}}, {{Day: impl.MaxDay, Amount: -7}}, {paid}, {received}, {paid, received}, {received, paid},
		slices.Repeat([]impl.Flow{paid}, 60), slices.Repeat([]impl.Flow{received}, 60), slices.Repeat([]impl.Flow{paid, received}, 30),
		{{Day: 5, Amount: 10}, {Day: 7, Amount: -4}, {Day: 9, Amount: 1}}, {{Day: 1, Amount: -5}, {Day: 2, Amount: 3}, {Day: 3, Amount: -4}},
		impl.FlowsOf(longBonds[0]), impl.FlowsOf(dailyBonds[0]),
	}
	r := rand.New(rand.NewPCG(20, 1))
	for size := range 61 {
		for i := range 12 {
			days, limit := []int{3, 12, 50, impl.MaxDay + 1}[i%4], []int{2, 100, 1000000000}[i%3]
			list := make([]impl.Flow, size)
			for k := range list {
				list[k] = impl.Flow{Day: r.IntN(days), Amount: r.IntN(2*limit+1) - limit}
			}
			lists = append(lists, list)
		}
	}
	return lists
}

// badPayments returns payments that are not valid, each by one of them, or by their number.
func badPayments() [][]impl.Flow {
	good := []impl.Flow{{Day: 5, Amount: 10}, {Day: 7, Amount: -4}}
	lists := [][]impl.Flow{slices.Repeat(good[:1], 61), slices.Repeat(good, 31), slices.Repeat(good, 500)}
	var wrong []impl.Flow
	for _, n := range outsideDays {
		wrong = append(wrong, impl.Flow{Day: n, Amount: 10}, impl.Flow{Day: n})
	}
	for _, n := range append([]int{impl.MaxAmount + 1, -impl.MaxAmount - 1, 2 * impl.MaxAmount}, extremes...) {
		wrong = append(wrong, impl.Flow{Day: 5, Amount: n})
	}
	for _, x := range wrong {
		lists = append(lists, []impl.Flow{x})
		for k := range len(good) + 1 {
			lists = append(lists, slices.Insert(slices.Clone(good), k, x))
		}
	}
	return lists
}

// plainPaid returns the sum of the payments from a day on before another one.
func plainPaid(list []impl.Flow, from int, to int) int {
	sum := 0
	for _, x := range list {
		if x.Day >= from && x.Day < to {
			sum += x.Amount
		}
	}
	return sum
}

// plainLadder is LadderOf valid arguments.
func plainLadder(list []impl.Flow, edges []int) []int {
	all := slices.Concat([]int{-1}, edges, []int{impl.MaxDay + 1})
	var out []int
	for i := range len(all) - 1 {
		out = append(out, plainPaid(list, all[i], all[i+1]))
	}
	return out
}

// plainNeed is CashNeed of valid payments, by the ends of the days in order.
func plainNeed(list []impl.Flow) int {
	ordered := slices.Clone(list)
	slices.SortFunc(ordered, func(a impl.Flow, b impl.Flow) int { return a.Day - b.Day })
	cash, least := 0, 0
	for i, x := range ordered {
		cash += x.Amount
		if i == len(ordered)-1 || ordered[i+1].Day > x.Day {
			least = min(least, cash)
		}
	}
	return -least
}

// paymentDays returns the days of payments, those around them, and the extremes.
func paymentDays(list []impl.Flow) []int {
	out := append([]int{-1, 0, 5, impl.MaxDay, impl.MaxDay + 1}, extremes...)
	for _, x := range list {
		out = append(out, x.Day-1, x.Day, x.Day+1)
	}
	return out
}

// cashAt returns CashAt for valid arguments.
func cashAt(t *testing.T, list []impl.Flow, begin int, n int) int {
	t.Helper()
	cash, ok := impl.CashAt(list, begin, n)
	if !ok {
		t.Fatalf("CashAt(%v, %d, %d) is refused", list, begin, n)
	}
	return cash
}

// leastCash returns the smallest CashAt of all days.
func leastCash(t *testing.T, list []impl.Flow, begin int) int {
	t.Helper()
	least := cashAt(t, list, begin, 0)
	for _, n := range paymentDays(list) {
		least = min(least, cashAt(t, list, begin, n))
	}
	return least
}

func TestLadderLimits(t *testing.T) {
	if got := [2]int{impl.MaxFlows, impl.MaxEdges}; got != [2]int{60, 10} {
		t.Errorf("limits = %v", got)
	}
	most := slices.Repeat([]impl.Flow{{Day: 36524, Amount: 1000000000}}, 60)
	if got := impl.LadderOf(most, spaced(36515, 36524, 1)); !slices.Equal(got, []int{0, 0, 0, 0, 0, 0, 0, 0, 0, 0, 60000000000}) {
		t.Errorf("LadderOf the greatest payments = %v", got)
	}
	if got, ok := impl.CashAt(most, 1000000000, 36524); !ok || got != 61000000000 {
		t.Errorf("CashAt of the greatest payments = %d, %v", got, ok)
	}
}

func TestInvalidPayments(t *testing.T) {
	for _, list := range badPayments() {
		for _, edges := range edgeLists() {
			if got := impl.LadderOf(list, edges); got != nil {
				t.Errorf("LadderOf(%v, %v) = %v", list, edges, got)
			}
		}
		for _, n := range append([]int{-1, 0, 5, impl.MaxDay}, extremes...) {
			if got, ok := impl.CashAt(list, 100, n); ok || got != 0 {
				t.Errorf("CashAt(%v, 100, %d) = %d, %v", list, n, got, ok)
			}
		}
		if got := impl.CashNeed(list); got != -1 {
			t.Errorf("CashNeed(%v) = %d", list, got)
		}
	}
}

func TestInvalidEdges(t *testing.T) {
	for _, edges := range badEdges() {
		for _, list := range [][]impl.Flow{nil, {{Day: 5, Amount: 10}, {Day: 7, Amount: -4}}} {
			if got := impl.LadderOf(list, edges); got != nil {
				t.Errorf("LadderOf(%v, %v) = %v", list, edges, got)
			}
		}
	}
}

func TestInvalidCash(t *testing.T) {
	for _, begin := range append([]int{impl.MaxAmount + 1, -impl.MaxAmount - 1}, extremes...) {
		for _, list := range [][]impl.Flow{nil, {{Day: 5, Amount: 10}}} {
			if got, ok := impl.CashAt(list, begin, 5); ok || got != 0 {
				t.Errorf("CashAt(%v, %d, 5) = %d, %v", list, begin, got, ok)
			}
		}
	}
}

func TestLaddersAreExact(t *testing.T) {
	for _, list := range goodPayments() {
		for _, edges := range edgeLists() {
			if got, want := impl.LadderOf(list, edges), plainLadder(list, edges); !slices.Equal(got, want) {
				t.Fatalf("LadderOf(%v, %v) = %v, want %v", list, edges, got, want)
			}
		}
	}
}

func TestLaddersByHand(t *testing.T) {
	list := []impl.Flow{{Day: 9, Amount: 1}, {Day: 5, Amount: 10}, {Day: 7, Amount: -4}, {Day: 5, Amount: 20}}
	for _, x := range []struct {
		edges, want []int
	}{
		{nil, []int{27}}, {[]int{6, 9}, []int{30, -4, 1}}, {[]int{6, 6}, nil}, {[]int{6, 10}, []int{30, -3, 0}},
		// A payment on an edge belongs to what begins there.
		{[]int{5}, []int{0, 27}}, {[]int{6}, []int{30, -3}}, {[]int{7}, []int{30, -3}}, {[]int{8}, []int{26, 1}}, {[]int{9}, []int{26, 1}}, {[]int{10}, []int{27, 0}},
		{[]int{5, 7, 9}, []int{0, 30, -4, 1}}, {[]int{5, 6, 7, 8, 9, 10}, []int{0, 30, 0, -4, 0, 1, 0}}, {[]int{0}, []int{0, 27}}, {[]int{36524}, []int{27, 0}},
	} {
		if got := impl.LadderOf(list, x.edges); !slices.Equal(got, x.want) {
			t.Errorf("LadderOf(%v, %v) = %v, want %v", list, x.edges, got, x.want)
		}
	}
	for _, x := range []struct {
		edges, want []int
	}{{nil, []int{0}}, {[]int{3}, []int{0, 0}}, {[]int{3, 4}, []int{0, 0, 0}}} {
		if got := impl.LadderOf(nil, x.edges); !slices.Equal(got, x.want) {
			t.Errorf("LadderOf(nil, %v) = %v, want %v", x.edges, got, x.want)
		}
	}
	ends := []impl.Flow{{Day: 0, Amount: 3}, {Day: 36524, Amount: 5}}
	if got := impl.LadderOf(ends, []int{0, 36524}); !slices.Equal(got, []int{0, 3, 5}) {
		t.Errorf("LadderOf(%v, {0, 36524}) = %v", ends, got)
	}
}

func TestCashIsExact(t *testing.T) {
	for _, list := range goodPayments() {
		for i, n := range paymentDays(list) {
			begin := []int{0, 100, -3, impl.MaxAmount, -impl.MaxAmount}[i%5]
			want := begin
			for _, x := range list {
				if x.Day <= n {
					want += x.Amount
				}
			}
			if got, ok := impl.CashAt(list, begin, n); !ok || got != want {
				t.Fatalf("CashAt(%v, %d, %d) = %d, %v, want %d", list, begin, n, got, ok, want)
			}
		}
	}
}

func TestCashNeedIsExact(t *testing.T) {
	for _, list := range goodPayments() {
		if got, want := impl.CashNeed(list), plainNeed(list); got != want {
			t.Fatalf("CashNeed(%v) = %d, want %d", list, got, want)
		}
	}
}

func TestCashByHand(t *testing.T) {
	for _, x := range []struct {
		list []impl.Flow
		need int
	}{
		{nil, 0}, {[]impl.Flow{{Day: 1, Amount: 5}}, 0}, {[]impl.Flow{{Day: 1, Amount: -5}}, 5}, {[]impl.Flow{{Day: 0, Amount: -5}}, 5}, {[]impl.Flow{{Day: 36524, Amount: -5}}, 5},
		{[]impl.Flow{{Day: 1, Amount: -5}, {Day: 2, Amount: 3}, {Day: 3, Amount: -4}}, 6},
		{[]impl.Flow{{Day: 3, Amount: -4}, {Day: 1, Amount: -5}, {Day: 2, Amount: 3}}, 6},
		{[]impl.Flow{{Day: 1, Amount: -5}, {Day: 2, Amount: 30}, {Day: 3, Amount: -4}}, 5},
		// Only the end of a day counts, whatever comes first on it.
		{[]impl.Flow{{Day: 1, Amount: -5}, {Day: 1, Amount: 5}}, 0}, {[]impl.Flow{{Day: 1, Amount: -5}, {Day: 1, Amount: 3}}, 2}, {[]impl.Flow{{Day: 2, Amount: -5}, {Day: 1, Amount: 5}}, 0},
		{[]impl.Flow{{Day: 2, Amount: 5}, {Day: 1, Amount: -5}}, 5},
		// The need may be more than the greatest amount.
		{[]impl.Flow{{Day: 1, Amount: -1000000000}}, 1000000000}, {[]impl.Flow{{Day: 1, Amount: -1000000000}, {Day: 2, Amount: -1}}, 1000000001},
		{slices.Repeat([]impl.Flow{{Day: 1, Amount: -1000000000}}, 60), 60000000000},
	} {
		if got := impl.CashNeed(x.list); got != x.need {
			t.Errorf("CashNeed(%v) = %d, want %d", x.list, got, x.need)
		}
	}
	list := []impl.Flow{{Day: 9, Amount: 1}, {Day: 5, Amount: 10}, {Day: 7, Amount: -4}}
	for n, want := range map[int]int{-1: 100, 0: 100, 4: 100, 5: 110, 6: 110, 7: 106, 8: 106, 9: 107, impl.MaxDay + 5: 107} {
		if got, ok := impl.CashAt(list, 100, n); !ok || got != want {
			t.Errorf("CashAt(%v, 100, %d) = %d, %v, want %d", list, n, got, ok, want)
		}
	}
}

func TestP100LaddersHaveAllPayments(t *testing.T) {
	for _, list := range goodPayments() {
		sum := plainPaid(list, 0, impl.MaxDay+1)
		if got := impl.LadderOf(list, nil); !slices.Equal(got, []int{sum}) {
			t.Fatalf("LadderOf(%v, nil) = %v", list, got)
		}
		for _, edges := range edgeLists() {
			got := impl.LadderOf(list, edges)
			if len(got) != len(edges)+1 || plainTotal(got) != sum {
				t.Fatalf("LadderOf(%v, %v) = %v", list, edges, got)
			}
		}
	}
}

func TestP101StepsCanBeJoined(t *testing.T) {
	for _, list := range goodPayments() {
		for _, edges := range edgeLists() {
			for last := len(edges) - 1; last >= 0; last-- {
				want := impl.LadderOf(list, edges[:last+1])
				want[last] += want[last+1]
				if got := impl.LadderOf(list, edges[:last]); !slices.Equal(got, want[:last+1]) {
					t.Fatalf("LadderOf(%v, %v) = %v, want %v", list, edges[:last], got, want[:last+1])
				}
			}
		}
	}
}

func TestP102CashChangesByPayments(t *testing.T) {
	for _, list := range goodPayments() {
		for _, n := range paymentDays(list) {
			if n == extremes[0] {
				continue
			}
			for _, begin := range []int{0, 100, -impl.MaxAmount} {
				if got, before := cashAt(t, list, begin, n), cashAt(t, list, begin, n-1); got != before+plainPaid(list, n, n+1) {
					t.Fatalf("CashAt(%v, %d, %d) = %d, the day before %d", list, begin, n, got, before)
				}
			}
		}
	}
}

func TestP103EnoughCashIsEnough(t *testing.T) {
	needs := 0
	for _, list := range goodPayments() {
		need := impl.CashNeed(list)
		if need < 0 {
			t.Fatalf("CashNeed(%v) = %d", list, need)
		}
		if need > impl.MaxAmount {
			continue
		}
		if least := leastCash(t, list, need); least < 0 {
			t.Fatalf("with CashNeed(%v) = %d there is once %d", list, need, least)
		}
		if need > 0 && leastCash(t, list, need-1) >= 0 {
			t.Fatalf("CashNeed(%v) = %d is more than enough", list, need)
		}
		if need > 0 {
			needs++
		}
	}
	if needs < 100 {
		t.Errorf("only %d payments need cash", needs)
	}
}

func TestP153PaymentsInReverseOrderNeedAsMuch(t *testing.T) {
	for _, list := range goodPayments() {
		back, turned := slices.Clone(list), slices.Clone(list)
		slices.Reverse(back)
		if len(turned) > 2 {
			turned = append(turned[2:], turned[0], turned[1])
		}
		if x, y, z := impl.CashNeed(list), impl.CashNeed(back), impl.CashNeed(turned); x != y || x != z {
			t.Fatalf("CashNeed(%v) = %d, in other orders %d and %d", list, x, y, z)
		}
	}
}

func TestLaddersStay(t *testing.T) {
	list, edges := []impl.Flow{{Day: 9, Amount: 1}, {Day: 5, Amount: -10}, {Day: 7, Amount: -4}}, []int{6, 9, 12}
	wantList, wantEdges := slices.Clone(list), slices.Clone(edges)
	first, second := impl.LadderOf(list[:2], edges[:2]), impl.LadderOf(list[:2], edges[:2])
	first[0] = 99
	_ = append(first, 98)
	impl.CashAt(list[:2], 5, 7)
	impl.CashNeed(list[:2])
	if !slices.Equal(second, []int{-10, 0, 1}) || !slices.Equal(impl.LadderOf(list[:2], edges[:2]), second) {
		t.Errorf("LadderOf twice: %v", second)
	}
	if !slices.Equal(list, wantList) || !slices.Equal(edges, wantEdges) {
		t.Errorf("functions of ladders leave %v of %v, %v of %v", list, wantList, edges, wantEdges)
	}
}
