package tests

import (
	"math/rand/v2"
	"slices"
	"testing"

	"loop.example/bonddesk/impl"
)

// otherAuctions are numbers of bonds that are not sold in one auction.
var otherAuctions = append([]int{0, -1, -30, impl.MaxAmount + 1, 2 * impl.MaxAmount}, extremes...)

// shortBids returns all bids of at most three of some yields and numbers, and some of six.
func shortBids() [][]impl.Bid {
	var few []impl.Bid
	for _, yield := range []int{0, 1, 400} {
		for _, many := range []int{1, 2, 5} {
			few = append(few, impl.Bid{Yield: yield, Many: many})
		}
	}
	lists := [][]impl.Bid{nil, {}}
	for _, a := range few {
		lists = append(lists, []impl.Bid{a})
		for _, b := range few {
			lists = append(lists, []impl.Bid{a, b})
			for _, c := range few {
				lists = append(lists, []impl.Bid{a, b, c}, []impl.Bid{b, c, a, a, c, b})
			}
		}
	}
	return lists
}

// goodBids returns valid bids, among them those at the limits, and up to 8 with equal and different yields.
func goodBids() [][]impl.Bid {
	most := impl.Bid{Yield: 3000, Many: 9999}
	lists := append(shortBids(), []impl.Bid{most}, slices.Repeat([]impl.Bid{most}, 8), slices.Repeat([]impl.Bid{{Many: 1}}, 8), []impl.Bid{{Many: 9999}, most, {Many: 1}, {Yield: 3000, Many: 1}})
	r := rand.New(rand.NewPCG(25, 1))
	for size := 1; size <= 8; size++ {
		for i := range 100 {
			list := make([]impl.Bid, size)
			for k := range list {
				list[k] = impl.Bid{Yield: r.IntN([]int{2, 4, 3001}[i%3]), Many: 1 + r.IntN([]int{3, 40, 9999}[i/3%3])}
			}
			lists = append(lists, list)
		}
	}
	return lists
}

// badBids returns bids that are not valid, each by one of them, or by their number.
func badBids() [][]impl.Bid {
	good := []impl.Bid{{Yield: 400, Many: 10}, {Yield: 410, Many: 20}}
	lists := [][]impl.Bid{slices.Repeat(good[:1], 9), slices.Repeat(good, 50), make([]impl.Bid, 8)}
	wrong := []impl.Bid{{}, {Yield: 1}, {Yield: -1, Many: -1}, {Yield: 3001, Many: 10000}}
	for _, n := range noRates {
		wrong = append(wrong, impl.Bid{Yield: n, Many: 10})
	}
	for _, n := range append([]int{0, -1, -10, 10000, 1000000}, extremes...) {
		wrong = append(wrong, impl.Bid{Yield: 400, Many: n})
	}
	for _, x := range wrong {
		lists = append(lists, []impl.Bid{x})
		for k := range len(good) + 1 {
			lists = append(lists, slices.Insert(slices.Clone(good), k, x))
		}
	}
	return lists
}

// soldNumbers returns numbers of bonds at and around those at which valid bids with some yields end, and others.
func soldNumbers(list []impl.Bid) []int {
	out := []int{1, 2, 3, 7, 29, 100, impl.MaxAmount - 1, impl.MaxAmount}
	for _, b := range list {
		upTo, below := manyUpTo(list, b.Yield), manyUpTo(list, b.Yield-1)
		out = append(out, upTo-1, upTo, upTo+1, below+1, below+2, (below+upTo)/2)
	}
	return slices.DeleteFunc(out, func(n int) bool { return n < 1 })
}

// eachAuction calls a function with valid bids and numbers of bonds.
func eachAuction(f func(list []impl.Bid, many int)) {
	for _, list := range goodBids() {
		for _, many := range soldNumbers(list) {
			f(list, many)
		}
	}
}

// manyUpTo returns the number of bonds of all bids with at most a yield.
func manyUpTo(list []impl.Bid, yield int) int {
	sum := 0
	for _, b := range list {
		if b.Yield <= yield {
			sum += b.Many
		}
	}
	return sum
}

// plainStop is StopYield of valid arguments.
func plainStop(list []impl.Bid, many int) int {
	stop := -1
	for _, b := range list {
		if manyUpTo(list, b.Yield) >= many && (stop == -1 || b.Yield < stop) {
			stop = b.Yield
		}
	}
	return stop
}

// plainAllot is AllotBids of valid arguments, where the bids at the last yield share in a list of their own.
func plainAllot(list []impl.Bid, many int) []int {
	out := make([]int, len(list))
	stop := plainStop(list, many)
	var last, weights []int
	for i, b := range list {
		if stop == -1 || b.Yield < stop {
			out[i] = b.Many
			many -= b.Many
		} else if b.Yield == stop {
			last, weights = append(last, i), append(weights, b.Many)
		}
	}
	if stop != -1 {
		for k, share := range plainShares(many, weights) {
			out[last[k]] = share
		}
	}
	return out
}

func TestInvalidBids(t *testing.T) {
	for _, list := range badBids() {
		if impl.ValidBids(list) {
			t.Errorf("%v are valid", list)
		}
		for _, many := range append([]int{1, 5, impl.MaxAmount}, otherAuctions...) {
			if got := impl.StopYield(list, many); got != -1 {
				t.Errorf("StopYield(%v, %d) = %d", list, many, got)
			}
			if got := impl.AllotBids(list, many); got != nil {
				t.Errorf("AllotBids(%v, %d) = %v", list, many, got)
			}
		}
	}
}

func TestAuctionsOfOtherNumbers(t *testing.T) {
	for _, list := range goodBids() {
		if !impl.ValidBids(list) {
			t.Fatalf("%v are not valid", list)
		}
		for _, many := range otherAuctions {
			if got := impl.StopYield(list, many); got != -1 {
				t.Errorf("StopYield(%v, %d) = %d", list, many, got)
			}
			if got := impl.AllotBids(list, many); got != nil {
				t.Errorf("AllotBids(%v, %d) = %v", list, many, got)
			}
		}
	}
}

func TestAuctionsByHand(t *testing.T) {
	list := []impl.Bid{{Yield: 400, Many: 10}, {Yield: 410, Many: 10}, {Yield: 410, Many: 30}, {Yield: 420, Many: 5}}
	mixed := []impl.Bid{{Yield: 7, Many: 3}, {Yield: 0, Many: 2}, {Yield: 7, Many: 3}, {Yield: 5, Many: 1}, {Yield: 7, Many: 4}, {Yield: 3000, Many: 9999}}
	same := slices.Repeat([]impl.Bid{{Yield: 3000, Many: 9999}}, 8)
	for _, x := range []struct {
		list []impl.Bid
		many int
		stop int
		want []int
	}{
		// No bonds are left at the last yield, one is, and all but one.
		{list, 10, 400, []int{10, 0, 0, 0}}, {list, 11, 410, []int{10, 0, 1, 0}}, {list, 49, 410, []int{10, 10, 29, 0}}, {list, 50, 410, []int{10, 10, 30, 0}},
		{list, 30, 410, []int{10, 5, 15, 0}}, {list, 1, 400, []int{1, 0, 0, 0}}, {list, 51, 420, []int{10, 10, 30, 1}}, {list, 55, 420, []int{10, 10, 30, 5}},
		// One more than all bids want.
		{list, 56, -1, []int{10, 10, 30, 5}}, {list, impl.MaxAmount, -1, []int{10, 10, 30, 5}},
		// The order of the bids is not that of the yields; rests go to the largest ones, and of equal ones to the first.
		{mixed, 2, 0, []int{0, 2, 0, 0, 0, 0}}, {mixed, 3, 5, []int{0, 2, 0, 1, 0, 0}}, {mixed, 4, 7, []int{0, 2, 0, 1, 1, 0}}, {mixed, 5, 7, []int{1, 2, 0, 1, 1, 0}},
		{mixed, 8, 7, []int{2, 2, 1, 1, 2, 0}}, {mixed, 12, 7, []int{3, 2, 3, 1, 3, 0}}, {mixed, 13, 7, []int{3, 2, 3, 1, 4, 0}}, {mixed, 14, 3000, []int{3, 2, 3, 1, 4, 1}},
		{nil, 1, -1, nil}, {[]impl.Bid{{Yield: 0, Many: 1}}, 1, 0, []int{1}}, {[]impl.Bid{{Yield: 0, Many: 1}}, 2, -1, []int{1}},
		// The limits.
		{same, 79992, 3000, slices.Repeat([]int{9999}, 8)}, {same, 79993, -1, slices.Repeat([]int{9999}, 8)}, {same, 79991, 3000, []int{9999, 9999, 9999, 9999, 9999, 9999, 9999, 9998}}, {same, 1, 3000, []int{1, 0, 0, 0, 0, 0, 0, 0}},
	} {
		if got := impl.StopYield(x.list, x.many); got != x.stop {
			t.Errorf("StopYield(%v, %d) = %d, want %d", x.list, x.many, got, x.stop)
		}
		if got := impl.AllotBids(x.list, x.many); !slices.Equal(got, x.want) {
			t.Errorf("AllotBids(%v, %d) = %v, want %v", x.list, x.many, got, x.want)
		}
	}
}

func TestAuctionsAreExact(t *testing.T) {
	eachAuction(func(list []impl.Bid, many int) {
		if got, want := impl.StopYield(list, many), plainStop(list, many); got != want {
			t.Fatalf("StopYield(%v, %d) = %d, want %d", list, many, got, want)
		}
		if got, want := impl.AllotBids(list, many), plainAllot(list, many); !slices.Equal(got, want) {
			t.Fatalf("AllotBids(%v, %d) = %v, want %v", list, many, got, want)
		}
	})
}

func TestP119BidsCanBeWithdrawn(t *testing.T) {
	for _, list := range goodBids() {
		for k := range len(list) + 1 {
			if !impl.ValidBids(list[:k]) {
				t.Fatalf("%v are not valid", list[:k])
			}
		}
	}
}

func TestP120AuctionsStopWhereThereIsEnough(t *testing.T) {
	eachAuction(func(list []impl.Bid, many int) {
		stop := impl.StopYield(list, many)
		if stop == -1 {
			if manyUpTo(list, 3000) >= many {
				t.Fatalf("StopYield(%v, %d) = -1", list, many)
			}
			return
		}
		if manyUpTo(list, stop) < many || manyUpTo(list, stop-1) >= many || !slices.ContainsFunc(list, func(b impl.Bid) bool { return b.Yield == stop }) {
			t.Fatalf("StopYield(%v, %d) = %d", list, many, stop)
		}
	})
}

func TestP121MoreBondsCostMore(t *testing.T) {
	for _, list := range goodBids() {
		total, before := manyUpTo(list, 3000), 0
		for many := 1; many <= total; many += 1 + total/200 {
			stop := impl.StopYield(list, many)
			if stop < before {
				t.Fatalf("StopYield(%v, %d) = %d behind %d", list, many, stop, before)
			}
			before = stop
		}
	}
}

func TestP122AuctionsAllotAllBonds(t *testing.T) {
	eachAuction(func(list []impl.Bid, many int) {
		got := impl.AllotBids(list, many)
		if len(got) != len(list) || plainTotal(got) != min(many, manyUpTo(list, 3000)) {
			t.Fatalf("AllotBids(%v, %d) = %v", list, many, got)
		}
		for i, b := range list {
			if got[i] < 0 || got[i] > b.Many {
				t.Fatalf("AllotBids(%v, %d) = %v", list, many, got)
			}
		}
	})
}

func TestP123BetterBidsAreServedFirst(t *testing.T) {
	eachAuction(func(list []impl.Bid, many int) {
		got := impl.AllotBids(list, many)
		for i, a := range list {
			for k, b := range list {
				if got[i] < a.Many && b.Yield > a.Yield && got[k] > 0 {
					t.Fatalf("AllotBids(%v, %d) = %v", list, many, got)
				}
			}
		}
	})
}

func TestP157LargeAuctionsServeEverybody(t *testing.T) {
	for _, list := range goodBids() {
		var want []int
		for _, b := range list {
			want = append(want, b.Many)
		}
		for _, more := range []int{0, 1, 1000} {
			many := plainTotal(want) + more
			if got := impl.AllotBids(list, many); many > 0 && !slices.Equal(got, want) {
				t.Fatalf("AllotBids(%v, %d) = %v", list, many, got)
			}
		}
	}
}

func TestBidsStay(t *testing.T) {
	list := []impl.Bid{{Yield: 420, Many: 5}, {Yield: 410, Many: 10}, {Yield: 400, Many: 10}, {Yield: 1, Many: 1}}
	want := slices.Clone(list)
	for _, many := range []int{1, 15, 100} {
		impl.StopYield(list[:3], many)
		first, second := impl.AllotBids(list[:3], many), impl.AllotBids(list[:3], many)
		kept := slices.Clone(second)
		first[0] = 99
		_ = append(first, 98)
		if !slices.Equal(second, kept) {
			t.Errorf("results of equal calls share memory: %v, %v", second, kept)
		}
	}
	if !slices.Equal(list, want) {
		t.Errorf("functions of auctions leave %v of %v", list, want)
	}
}
