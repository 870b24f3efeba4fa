package tests

import (
	"math/big"
	"math/rand/v2"
	"slices"
	"testing"

	"loop.example/bonddesk/impl"
)

// otherHoldings are numbers that are neither holdings nor weights.
var otherHoldings = append([]int{-1, -9999, impl.MaxMany + 1, 1000000}, extremes...)

// shortHoldings returns all holdings of at most three holders with up to 4 bonds, and some of four.
func shortHoldings() [][]int {
	var lists [][]int
	for a := range 5 {
		lists = append(lists, []int{a})
		for b := range 5 {
			lists = append(lists, []int{a, b})
			for c := range 5 {
				lists = append(lists, []int{a, b, c}, []int{c, a, b, a})
			}
		}
	}
	return lists
}

// goodHoldings returns valid holdings, among them those at the limits and those of nobody.
func goodHoldings() [][]int {
	lists := append(shortHoldings(),
		[]int{9999}, slices.Repeat([]int{9999}, 8), slices.Repeat([]int{1}, 8), make([]int, 8), []int{0, 0, 0, 0, 0, 0, 0, 1}, []int{1, 0, 0, 0, 0, 0, 0, 0},
		[]int{9999, 1, 9999, 1, 9999, 1, 9999, 1}, []int{1, 2, 3, 4, 5, 6, 7, 8}, []int{8, 7, 6, 5, 4, 3, 2, 1}, []int{9999, 9998, 9997, 9996, 9995, 9994, 9993, 9992})
	r := rand.New(rand.NewPCG(18, 1))
	for i := range 400 {
		list := make([]int, 1+r.IntN(8))
		for k := range list {
			list[k] = r.IntN([]int{2, 4, 100, 10000}[i%4])
		}
		lists = append(lists, list)
	}
	return lists
}

// goodWeights returns the holdings that are not all 0.
func goodWeights() [][]int {
	return slices.DeleteFunc(goodHoldings(), func(list []int) bool { return plainTotal(list) == 0 })
}

// badHoldings returns holdings that are not valid, each by one of them, or by their number.
func badHoldings() [][]int {
	lists := [][]int{nil, {}, slices.Repeat([]int{1}, 9), slices.Repeat([]int{9999}, 100), make([]int, 9)}
	for _, n := range otherHoldings {
		lists = append(lists, []int{n})
		for k := range 4 {
			lists = append(lists, slices.Insert([]int{5, 0, 7}, k, n))
		}
	}
	return append(lists, []int{5, -5}, []int{-1, 2}, []int{10000, -1})
}

// sharedAmounts are amounts that are shared with weights of a total, among them those that leave rests everywhere.
func sharedAmounts(total int) []int {
	return []int{0, 1, 2, 3, 5, 7, 10, 99, 1000, total - 1, total, total + 1, 3*total + total/2, 123456789, impl.MaxAmount - 1, impl.MaxAmount}
}

// plainTotal returns the sum of numbers.
func plainTotal(list []int) int {
	sum := 0
	for _, n := range list {
		sum += n
	}
	return sum
}

// plainShares is ProRate of valid arguments: whoever misses the most of the exact share gets 1 more, one after the other.
func plainShares(amount int, weights []int) []int {
	total := plainTotal(weights)
	shares := make([]int, len(weights))
	missing := make([]*big.Rat, len(weights))
	for i, w := range weights {
		exact := big.NewRat(int64(amount*w), int64(total))
		shares[i] = roundedDown(exact)
		missing[i] = exact.Sub(exact, big.NewRat(int64(shares[i]), 1))
	}
	for plainTotal(shares) < amount {
		most := 0
		for i := range missing {
			if missing[i].Cmp(missing[most]) > 0 {
				most = i
			}
		}
		shares[most]++
		missing[most].Sub(missing[most], big.NewRat(1, 1))
	}
	return shares
}

// eachShared calls a function for weights and amounts.
func eachShared(f func(amount int, weights []int)) {
	for _, weights := range goodWeights() {
		for _, amount := range sharedAmounts(plainTotal(weights)) {
			f(amount, weights)
		}
	}
}

// eachDrawn calls a function for holdings and numbers of bonds that are repaid early, few and nearly all.
func eachDrawn(f func(many int, holders []int)) {
	for _, holders := range goodWeights() {
		total := plainTotal(holders)
		for many := range total + 1 {
			if many < 12 || total-many < 12 || many%5003 == 0 {
				f(many, holders)
			}
		}
	}
}

// payingBonds returns bonds whose payments are looked at.
func payingBonds() []impl.Bond {
	return slices.Concat(dailyBonds, longBonds)
}

// payingDays returns all days of payments of a bond, those around them, and days outside of it.
func payingDays(b impl.Bond) []int {
	out := append([]int{b.Start, b.End - 1, b.End + 1}, outsideDays...)
	for _, f := range plainFlows(b) {
		out = append(out, f.Day-1, f.Day, f.Day+1)
	}
	return out
}

// plainPayment returns what a valid bond pays on a day.
func plainPayment(b impl.Bond, n int) int {
	for _, f := range plainFlows(b) {
		if f.Day == n {
			return f.Amount
		}
	}
	return 0
}

func TestEventLimits(t *testing.T) {
	if impl.MaxHolders != 8 {
		t.Errorf("MaxHolders = %d", impl.MaxHolders)
	}
	most := slices.Repeat([]int{9999}, 8)
	if got := impl.ProRate(1000000000, most); !slices.Equal(got, slices.Repeat([]int{125000000}, 8)) {
		t.Errorf("ProRate the greatest amount = %v", got)
	}
	if got := impl.DrawLots(79992, most); !slices.Equal(got, most) {
		t.Errorf("DrawLots all = %v", got)
	}
	if got := impl.DrawLots(79993, most); got != nil {
		t.Errorf("DrawLots one more than all = %v", got)
	}
	if got := impl.CouponPay(dailyBonds[0], most, dailyBonds[0].End); !slices.Equal(got, slices.Repeat([]int{9999 * 10200}, 8)) {
		t.Errorf("CouponPay the most = %v", got)
	}
}

func TestCouponPayIsExact(t *testing.T) {
	for _, b := range payingBonds() {
		for _, n := range payingDays(b) {
			payment := plainPayment(b, n)
			for _, holders := range [][]int{{0}, {1}, {2, 0}, {0, 3, 9999}, {1, 2, 3, 4, 5, 6, 7, 8}, make([]int, 8)} {
				want := make([]int, len(holders))
				for i, many := range holders {
					want[i] = many * payment
				}
				if got := impl.CouponPay(b, holders, n); !slices.Equal(got, want) {
					t.Fatalf("CouponPay(%v, %v, %d) = %v, want %v", b, holders, n, got, want)
				}
			}
		}
	}
}

func TestCouponPayByHand(t *testing.T) {
	b := impl.Bond{Start: day(2020, 3, 1), End: day(2021, 1, 15), Months: 6, Rate: 400}
	for _, x := range []struct {
		n    int
		want []int
	}{
		{day(2020, 7, 15), []int{298, 0, 1341}}, {day(2021, 1, 15), []int{20400, 0, 91800}}, {day(2020, 3, 1), []int{0, 0, 0}}, {day(2020, 1, 15), []int{0, 0, 0}},
		{day(2020, 7, 14), []int{0, 0, 0}}, {day(2020, 7, 16), []int{0, 0, 0}}, {day(2021, 1, 16), []int{0, 0, 0}}, {day(2021, 7, 15), []int{0, 0, 0}}, {-1, []int{0, 0, 0}},
	} {
		if got := impl.CouponPay(b, []int{2, 0, 9}, x.n); !slices.Equal(got, x.want) {
			t.Errorf("CouponPay on day %d = %v, want %v", x.n, got, x.want)
		}
	}
	free := impl.Bond{Start: 0, End: day(1992, 1, 1), Months: 12}
	if got := impl.CouponPay(free, []int{3}, day(1991, 1, 1)); !slices.Equal(got, []int{0}) {
		t.Errorf("CouponPay without a rate = %v", got)
	}
	if got := impl.CouponPay(free, []int{3}, day(1992, 1, 1)); !slices.Equal(got, []int{30000}) {
		t.Errorf("CouponPay at the end without a rate = %v", got)
	}
}

func TestCouponPayOfInvalidArguments(t *testing.T) {
	for _, b := range badBonds() {
		for _, n := range []int{b.Start, b.End, 0, day(2021, 1, 15)} {
			if got := impl.CouponPay(b, []int{2, 0}, n); got != nil {
				t.Errorf("CouponPay(%v, .., %d) = %v", b, n, got)
			}
		}
	}
	b := dailyBonds[0]
	for _, holders := range badHoldings() {
		for _, n := range []int{b.End, b.End - 1, -1} {
			if got := impl.CouponPay(b, holders, n); got != nil {
				t.Errorf("CouponPay(%v, %v, %d) = %v", b, holders, n, got)
			}
		}
	}
}

func TestProRateIsExact(t *testing.T) {
	eachShared(func(amount int, weights []int) {
		if got, want := impl.ProRate(amount, weights), plainShares(amount, weights); !slices.Equal(got, want) {
			t.Fatalf("ProRate(%d, %v) = %v, want %v", amount, weights, got, want)
		}
	})
	for _, weights := range shortHoldings() {
		for amount := range 20 {
			if plainTotal(weights) == 0 {
				continue
			}
			if got, want := impl.ProRate(amount, weights), plainShares(amount, weights); !slices.Equal(got, want) {
				t.Fatalf("ProRate(%d, %v) = %v, want %v", amount, weights, got, want)
			}
		}
	}
}

func TestProRateByHand(t *testing.T) {
	for _, x := range []struct {
		amount        int
		weights, want []int
	}{
		{10, []int{1, 1, 1}, []int{4, 3, 3}},
		{11, []int{1, 1, 1}, []int{4, 4, 3}},
		{12, []int{1, 1, 1}, []int{4, 4, 4}},
		// Rests of 1, 0 and 3 quarters: the largest one, not the first one.
		{5, []int{1, 0, 3}, []int{1, 0, 4}},
		{7, []int{1, 2, 3}, []int{1, 2, 4}},
		// Rests of 2, 8 and 4 fourteenths with one left, and of 4, 8 and 8 tenths with two left.
		{10, []int{3, 5, 6}, []int{2, 4, 4}},
		{6, []int{4, 3, 3}, []int{2, 2, 2}},
		{1, []int{6, 1, 1}, []int{1, 0, 0}},
		{1, []int{1, 3, 4}, []int{0, 0, 1}},
		// Of equal rests the first ones, behind a larger one.
		{2, []int{3, 3, 4}, []int{1, 0, 1}},
		{3, []int{1, 1, 1, 1, 4}, []int{1, 0, 0, 0, 2}},
		{3, []int{2, 0, 2, 0}, []int{2, 0, 1, 0}},
		// A weight of 0 gets nothing, even at the front.
		{1, []int{0, 0, 5}, []int{0, 0, 1}},
		{0, []int{3, 4}, []int{0, 0}},
		{1000000000, []int{1}, []int{1000000000}},
		{1000000000, []int{1, 1, 1}, []int{333333334, 333333333, 333333333}},
		{999999999, []int{9999, 1}, []int{999899999, 100000}},
	} {
		if got := impl.ProRate(x.amount, x.weights); !slices.Equal(got, x.want) {
			t.Errorf("ProRate(%d, %v) = %v, want %v", x.amount, x.weights, got, x.want)
		}
	}
}

func TestProRateOfInvalidArguments(t *testing.T) {
	lists := append(badHoldings(), []int{0}, []int{0, 0, 0}, make([]int, 8))
	for _, weights := range lists {
		for _, amount := range []int{0, 1, 5, impl.MaxAmount} {
			if got := impl.ProRate(amount, weights); got != nil {
				t.Errorf("ProRate(%d, %v) = %v", amount, weights, got)
			}
			if got := impl.DrawLots(amount, weights); got != nil {
				t.Errorf("DrawLots(%d, %v) = %v", amount, weights, got)
			}
		}
	}
	for _, amount := range append([]int{-1, -5, impl.MaxAmount + 1}, extremes...) {
		for _, weights := range [][]int{{1}, {4, 2}, {9999, 9999}} {
			if got := impl.ProRate(amount, weights); got != nil {
				t.Errorf("ProRate(%d, %v) = %v", amount, weights, got)
			}
			if got := impl.DrawLots(amount, weights); got != nil {
				t.Errorf("DrawLots(%d, %v) = %v", amount, weights, got)
			}
		}
	}
}

func TestDrawLotsIsExact(t *testing.T) {
	eachDrawn(func(many int, holders []int) {
		if got, want := impl.DrawLots(many, holders), plainShares(many, holders); !slices.Equal(got, want) {
			t.Fatalf("DrawLots(%d, %v) = %v, want %v", many, holders, got, want)
		}
	})
	for _, holders := range goodWeights() {
		total := plainTotal(holders)
		for _, many := range []int{total + 1, total + 2, 2 * total, 100000, impl.MaxAmount} {
			if got := impl.DrawLots(many, holders); many > total && got != nil {
				t.Fatalf("DrawLots(%d, %v) = %v", many, holders, got)
			}
		}
	}
}

func TestDrawLotsByHand(t *testing.T) {
	for _, x := range []struct {
		many          int
		holders, want []int
	}{
		{3, []int{4, 2}, []int{2, 1}}, {6, []int{4, 2}, []int{4, 2}}, {7, []int{4, 2}, nil}, {0, []int{4, 2}, []int{0, 0}}, {5, []int{4, 2}, []int{3, 2}},
		{1, []int{0, 1, 1}, []int{0, 1, 0}}, {2, []int{1, 1, 1}, []int{1, 1, 0}}, {0, []int{0, 0}, nil}, {1, []int{0, 0}, nil},
	} {
		if got := impl.DrawLots(x.many, x.holders); !slices.Equal(got, x.want) {
			t.Errorf("DrawLots(%d, %v) = %v, want %v", x.many, x.holders, got, x.want)
		}
	}
}

func TestP93HoldersArePaidAlike(t *testing.T) {
	for _, b := range payingBonds() {
		for _, f := range impl.FlowsOf(b) {
			for _, holders := range [][]int{{1}, {0, 5}, {9999, 9999, 1}, {8, 7, 6, 5, 4, 3, 2, 1}} {
				got := impl.CouponPay(b, holders, f.Day)
				if len(got) != len(holders) || plainTotal(got) != plainTotal(holders)*f.Amount {
					t.Fatalf("CouponPay(%v, %v, %d) = %v", b, holders, f.Day, got)
				}
				for i, many := range holders {
					if got[i] != many*f.Amount {
						t.Fatalf("CouponPay(%v, %v, %d) = %v", b, holders, f.Day, got)
					}
				}
			}
		}
	}
}

func TestP94SharesAddUp(t *testing.T) {
	eachShared(func(amount int, weights []int) {
		got, total := impl.ProRate(amount, weights), plainTotal(weights)
		if len(got) != len(weights) || plainTotal(got) != amount {
			t.Fatalf("ProRate(%d, %v) = %v", amount, weights, got)
		}
		for i, w := range weights {
			if apart(got[i]*total, amount*w) >= total {
				t.Fatalf("ProRate(%d, %v) = %v", amount, weights, got)
			}
		}
	})
}

func TestP95GreaterWeightsGetMore(t *testing.T) {
	eachShared(func(amount int, weights []int) {
		got := impl.ProRate(amount, weights)
		for i := range weights {
			for k := range weights {
				if weights[i] > weights[k] && got[i] < got[k] {
					t.Fatalf("ProRate(%d, %v) = %v", amount, weights, got)
				}
			}
		}
	})
}

func TestP96NobodyLosesMoreThanTheyHold(t *testing.T) {
	eachDrawn(func(many int, holders []int) {
		got := impl.DrawLots(many, holders)
		if len(got) != len(holders) || plainTotal(got) != many {
			t.Fatalf("DrawLots(%d, %v) = %v", many, holders, got)
		}
		for i := range got {
			if got[i] < 0 || got[i] > holders[i] {
				t.Fatalf("DrawLots(%d, %v) = %v", many, holders, got)
			}
		}
	})
}

func TestP152EqualWeightsShareEqually(t *testing.T) {
	for size := 1; size <= 8; size++ {
		for _, weight := range []int{1, 2, 333, 9999} {
			for _, amount := range append(spaced(0, 40, 1), sharedAmounts(size*weight)...) {
				got := impl.ProRate(amount, slices.Repeat([]int{weight}, size))
				for i := range got {
					if got[0]-got[i] > 1 || i > 0 && got[i] > got[i-1] {
						t.Fatalf("ProRate(%d, %d times %d) = %v", amount, size, weight, got)
					}
				}
				if len(got) != size || plainTotal(got) != amount {
					t.Fatalf("ProRate(%d, %d times %d) = %v", amount, size, weight, got)
				}
			}
		}
	}
}

func TestP161AllAmountsAreSharedWholly(t *testing.T) {
	r := rand.New(rand.NewPCG(18, 161))
	for range 50000 {
		weights := make([]int, 1+r.IntN(8))
		limit := []int{2, 10, 1000, 10000}[r.IntN(4)]
		for i := range weights {
			weights[i] = r.IntN(limit)
		}
		total := plainTotal(weights)
		amount := r.IntN([]int{10, 1000, 1000000, impl.MaxAmount + 1}[r.IntN(4)])
		got := impl.ProRate(amount, weights)
		if total == 0 {
			if got != nil {
				t.Fatalf("ProRate(%d, %v) = %v", amount, weights, got)
			}
			continue
		}
		if len(got) != len(weights) || plainTotal(got) != amount {
			t.Fatalf("ProRate(%d, %v) = %v", amount, weights, got)
		}
		for i, w := range weights {
			if apart(got[i]*total, amount*w) >= total {
				t.Fatalf("ProRate(%d, %v) = %v", amount, weights, got)
			}
		}
	}
}

func TestHoldingsStay(t *testing.T) {
	list := []int{3, 5, 6, 7, 9}
	want := slices.Clone(list)
	b := dailyBonds[0]
	for _, f := range []func() []int{
		func() []int { return impl.ProRate(10, list[:3]) },
		func() []int { return impl.DrawLots(10, list[:3]) },
		func() []int { return impl.CouponPay(b, list[:3], b.End) },
		func() []int { return impl.CouponPay(b, list[:3], b.End-1) },
	} {
		first, second := f(), f()
		kept := slices.Clone(second)
		first[0] = 99
		_ = append(first, 98)
		if !slices.Equal(second, kept) || !slices.Equal(f(), kept) {
			t.Errorf("results of equal calls share memory: %v, %v", second, kept)
		}
		if !slices.Equal(list, want) {
			t.Errorf("functions of events leave %v of %v", list, want)
		}
	}
}
