package tests

import (
	"math/rand/v2"
	"slices"
	"testing"

	"loop.example/bonddesk/impl"
)

// tradeNumbers and tradePrices make up short trades, which are tried in all combinations.
var (
	tradeNumbers = []int{-3, -2, -1, 1, 2, 3}
	tradePrices  = []int{90, 100}
)

// shortTrades returns all valid trades of at most four of these numbers and prices; some of them share a day.
func shortTrades() [][]impl.Trade {
	days := []int{0, 4, 4, 9}
	lists := [][]impl.Trade{{}}
	for from, size := 0, 1; size <= len(days); size++ {
		to := len(lists)
		for _, list := range lists[from:to] {
			for _, many := range tradeNumbers {
				for _, price := range tradePrices {
					lists = append(lists, append(slices.Clone(list), impl.Trade{Day: days[size-1], Many: many, Price: price}))
				}
			}
		}
		from = to
	}
	return lists
}

// longTrades returns valid trades with up to 16 of them, with small and large numbers.
func longTrades() [][]impl.Trade {
	r := rand.New(rand.NewPCG(15, 1))
	var lists [][]impl.Trade
	for size := 1; size <= 16; size++ {
		for i := range 60 {
			limit := []int{3, 20, 500, 9999}[i%4]
			list := make([]impl.Trade, size)
			for k, n := 0, r.IntN(100); k < size; k++ {
				many := 1 + r.IntN(limit)
				if r.IntN(2) == 0 {
					many = -many
				}
				list[k] = impl.Trade{Day: n, Many: many, Price: 1 + r.IntN(impl.MaxPrice)}
				n = min(n+r.IntN(3)*(1+r.IntN(2500)), impl.MaxDay)
			}
			lists = append(lists, list)
		}
	}
	return lists
}

// extremeTrades returns valid trades at the limits.
func extremeTrades() [][]impl.Trade {
	sold, bought := impl.Trade{Many: -9999, Price: 1}, impl.Trade{Many: 9999, Price: 50000}
	return [][]impl.Trade{
		nil, {{Many: 1, Price: 1}}, {{Day: impl.MaxDay, Many: -1, Price: 1}}, {{Day: 0, Many: 1, Price: 5}, {Day: impl.MaxDay, Many: -1, Price: 7}},
		slices.Repeat([]impl.Trade{bought}, 16), slices.Repeat([]impl.Trade{sold}, 16), slices.Repeat([]impl.Trade{bought, sold}, 8),
		slices.Concat(slices.Repeat([]impl.Trade{sold}, 8), slices.Repeat([]impl.Trade{bought}, 8)),
		slices.Concat(slices.Repeat([]impl.Trade{{Many: 1, Price: 3}}, 15), []impl.Trade{sold}),
		slices.Concat(slices.Repeat([]impl.Trade{{Many: -1, Price: 3}}, 15), []impl.Trade{bought}),
	}
}

// goodTrades returns all these trades.
func goodTrades() [][]impl.Trade {
	return slices.Concat(shortTrades(), longTrades(), extremeTrades())
}

// badTrades returns trades that are not valid, each by one of them, at the beginning, within, or at the end.
func badTrades() [][]impl.Trade {
	good := []impl.Trade{{Day: 5, Many: 10, Price: 100}, {Day: 5, Many: -4, Price: 110}, {Day: 7, Many: -3, Price: 120}}
	lists := [][]impl.Trade{
		slices.Repeat(good[:1], 17), slices.Repeat(good[:1], 100),
		{{Day: 5, Many: 10, Price: 100}, {Day: 4, Many: -4, Price: 110}},
		{{Day: 5, Many: 10, Price: 100}, {Day: 7, Many: -4, Price: 110}, {Day: 6, Many: -4, Price: 110}},
		{{Day: 6, Many: 10, Price: 100}, {Day: 5, Many: -4, Price: 110}, {Day: 7, Many: -4, Price: 110}},
		{{Day: impl.MaxDay, Many: 10, Price: 100}, {Day: 0, Many: -4, Price: 110}},
	}
	var wrong []impl.Trade
	for _, n := range outsideDays {
		wrong = append(wrong, impl.Trade{Day: n, Many: 10, Price: 100})
	}
	for _, n := range append([]int{0, impl.MaxMany + 1, -impl.MaxMany - 1, 1000000, -1000000}, extremes...) {
		wrong = append(wrong, impl.Trade{Day: 5, Many: n, Price: 100})
	}
	for _, n := range noPledgePrices {
		wrong = append(wrong, impl.Trade{Day: 5, Many: 10, Price: n})
	}
	for _, x := range wrong {
		lists = append(lists, []impl.Trade{x})
		for k := range len(good) + 1 {
			lists = append(lists, slices.Insert(slices.Clone(good), k, x))
		}
	}
	return lists
}

// plainLots returns the lots and the gain of valid trades, by a queue that has each bond by itself, as the index of its
// trade.
func plainLots(list []impl.Trade) ([]impl.Lot, int) {
	var queue []int
	gain := 0
	for i, x := range list {
		for range x.Many * sign(x.Many) {
			if len(queue) == 0 || sign(list[queue[0]].Many) == sign(x.Many) {
				queue = append(queue, i)
				continue
			}
			gain += (list[queue[0]].Price - x.Price) * sign(x.Many)
			queue = queue[1:]
		}
	}
	var lots []impl.Lot
	for i, x := range list {
		left := 0
		for _, k := range queue {
			if k == i {
				left++
			}
		}
		if left > 0 {
			lots = append(lots, impl.Lot{Many: left * sign(x.Many), Price: x.Price})
		}
	}
	return lots, gain
}

// sumOfLots returns the number of bonds of lots, and their value at their prices.
func sumOfLots(lots []impl.Lot) (many int, value int) {
	for _, x := range lots {
		many += x.Many
		value += x.Many * x.Price
	}
	return many, value
}

func TestTradeLimits(t *testing.T) {
	if got := [2]int{impl.MaxTrades, impl.MaxMany}; got != [2]int{16, 9999} {
		t.Errorf("limits = %v", got)
	}
	for _, list := range goodTrades() {
		if !impl.ValidTrades(list) {
			t.Fatalf("%v are not valid", list)
		}
	}
}

func TestInvalidTrades(t *testing.T) {
	for _, list := range badTrades() {
		if impl.ValidTrades(list) {
			t.Errorf("%v are valid", list)
		}
		for _, n := range append([]int{-1, 0, 4, 5, 6, 7, impl.MaxDay}, extremes...) {
			if got := impl.PositionAt(list, n); got != 0 {
				t.Errorf("PositionAt(%v, %d) = %d", list, n, got)
			}
		}
		if lots := impl.LotsOf(list); lots != nil {
			t.Errorf("LotsOf(%v) = %v", list, lots)
		}
		if got := impl.GainOf(list); got != 0 {
			t.Errorf("GainOf(%v) = %d", list, got)
		}
	}
}

func TestSettleDayIsAddBusiness(t *testing.T) {
	for name, h := range calendars() {
		for _, n := range append(someDays(), outsideDays...) {
			for _, lag := range append([]int{-1, 0, 1, 2, 3, 5, 29, 30, 31}, extremes...) {
				if got, want := impl.SettleDay(h, n, lag), impl.AddBusiness(h, n, lag); got != want {
					t.Fatalf("%s: SettleDay(%d, %d) = %d, want %d", name, n, lag, got, want)
				}
			}
		}
	}
}

func TestSettleDaysByHand(t *testing.T) {
	saturday := day(2020, 1, 4)
	for _, x := range []struct {
		h         []int
		n, lag, w int
	}{
		{nil, saturday - 1, 0, saturday - 1},
		{nil, saturday - 1, 1, saturday + 2},
		{nil, saturday, 0, saturday + 2},
		{nil, saturday, 2, saturday + 4},
		{[]int{saturday + 2}, saturday, 0, saturday + 3},
		{[]int{saturday + 3}, saturday - 1, 2, saturday + 4},
		{nil, saturday, 30, saturday + 44},
		{nil, saturday, 31, -1},
		{nil, saturday, -1, -1},
		{nil, impl.MaxDay, 0, -1},
		{nil, impl.MaxDay - 1, 0, impl.MaxDay - 1},
		{nil, impl.MaxDay - 1, 1, -1},
		{nil, impl.MaxDay + 1, 0, -1},
		{nil, -1, 0, -1},
	} {
		if got := impl.SettleDay(x.h, x.n, x.lag); got != x.w {
			t.Errorf("SettleDay(%v, %v, %d) = %d, want %d", x.h, dateAt(x.n), x.lag, got, x.w)
		}
	}
	for name, h := range badCalendars() {
		if got := impl.SettleDay(h, saturday, 2); got != -1 {
			t.Errorf("%s: SettleDay = %d", name, got)
		}
	}
}

func TestPositionsAreExact(t *testing.T) {
	for _, list := range goodTrades() {
		days := slices.Clone(extremes)
		for _, x := range list {
			days = append(days, x.Day-1, x.Day, x.Day+1)
		}
		for _, n := range days {
			want := 0
			for _, x := range list {
				if x.Day <= n {
					want += x.Many
				}
			}
			if got := impl.PositionAt(list, n); got != want {
				t.Fatalf("PositionAt(%v, %d) = %d, want %d", list, n, got, want)
			}
		}
	}
}

func TestLotsAreExact(t *testing.T) {
	for _, list := range goodTrades() {
		want, gain := plainLots(list)
		if lots := impl.LotsOf(list); !slices.Equal(lots, want) {
			t.Fatalf("LotsOf(%v) = %v, want %v", list, lots, want)
		}
		if got := impl.GainOf(list); got != gain {
			t.Fatalf("GainOf(%v) = %d, want %d", list, got, gain)
		}
	}
}

func TestLotsByHand(t *testing.T) {
	for _, x := range []struct {
		list []impl.Trade
		lots []impl.Lot
		gain int
	}{
		{nil, nil, 0},
		{[]impl.Trade{{Many: 10, Price: 100}}, []impl.Lot{{Many: 10, Price: 100}}, 0},
		{[]impl.Trade{{Many: -10, Price: 100}}, []impl.Lot{{Many: -10, Price: 100}}, 0},
		// Lots with the same price stay apart.
		{[]impl.Trade{{Many: 1, Price: 100}, {Many: 2, Price: 100}}, []impl.Lot{{Many: 1, Price: 100}, {Many: 2, Price: 100}}, 0},
		{[]impl.Trade{{Many: 10, Price: 100}, {Many: -10, Price: 130}}, nil, 300},
		{[]impl.Trade{{Many: -10, Price: 100}, {Many: 10, Price: 130}}, nil, -300},
		{[]impl.Trade{{Many: 10, Price: 100}, {Many: -4, Price: 110}}, []impl.Lot{{Many: 6, Price: 100}}, 40},
		{[]impl.Trade{{Many: -10, Price: 100}, {Many: 4, Price: 110}}, []impl.Lot{{Many: -6, Price: 100}}, -40},
		// The oldest lots are closed first, not the cheapest or the newest ones.
		{[]impl.Trade{{Many: 2, Price: 200}, {Many: 3, Price: 100}, {Many: -4, Price: 150}}, []impl.Lot{{Many: 1, Price: 100}}, 0},
		{[]impl.Trade{{Many: 3, Price: 100}, {Many: 2, Price: 200}, {Many: -4, Price: 150}}, []impl.Lot{{Many: 1, Price: 200}}, 100},
		{[]impl.Trade{{Many: -3, Price: 100}, {Many: -2, Price: 200}, {Many: 4, Price: 150}}, []impl.Lot{{Many: -1, Price: 200}}, -100},
		// A position changes its sign: from 5 to -2, and from -2 to 1.
		{[]impl.Trade{{Many: 2, Price: 100}, {Many: 3, Price: 110}, {Many: -7, Price: 120}}, []impl.Lot{{Many: -2, Price: 120}}, 70},
		{[]impl.Trade{{Many: 2, Price: 100}, {Many: 3, Price: 110}, {Many: -7, Price: 120}, {Many: 3, Price: 90}}, []impl.Lot{{Many: 1, Price: 90}}, 130},
		// A new lot is behind the others also when it comes behind a part of an old one.
		{[]impl.Trade{{Many: 5, Price: 100}, {Many: -2, Price: 100}, {Many: 4, Price: 50}, {Many: -4, Price: 100}}, []impl.Lot{{Many: 3, Price: 50}}, 50},
		{[]impl.Trade{{Many: 9999, Price: 1}, {Many: -9999, Price: 50000}}, nil, 499940001},
	} {
		if lots := impl.LotsOf(x.list); !slices.Equal(lots, x.lots) {
			t.Errorf("LotsOf(%v) = %v, want %v", x.list, lots, x.lots)
		}
		if got := impl.GainOf(x.list); got != x.gain {
			t.Errorf("GainOf(%v) = %d, want %d", x.list, got, x.gain)
		}
	}
}

func TestP78TradesSettleLater(t *testing.T) {
	for name, h := range calendars() {
		for _, n := range someDays() {
			for _, lag := range []int{0, 1, 2, 30} {
				got := impl.SettleDay(h, n, lag)
				if got >= 0 && (got < n || !plainBusiness(h, got)) {
					t.Fatalf("%s: SettleDay(%d, %d) = %d", name, n, lag, got)
				}
				if got < 0 && n < impl.MaxDay-80 {
					t.Fatalf("%s: SettleDay(%d, %d) = %d", name, n, lag, got)
				}
			}
		}
	}
}

func TestP79TradesComeInOrder(t *testing.T) {
	for _, list := range goodTrades() {
		for k := len(list) - 1; k >= 0; k-- {
			if !impl.ValidTrades(list[:k]) {
				t.Fatalf("%d of %v are not valid", k, list)
			}
		}
	}
}

func TestP80PositionsAreSums(t *testing.T) {
	for _, list := range goodTrades() {
		if len(list) == 0 {
			continue
		}
		sum, _ := sumOfLots(impl.LotsOf(list))
		if got := impl.PositionAt(list, list[len(list)-1].Day); got != sum {
			t.Fatalf("PositionAt the last day of %v = %d, the lots %d", list, got, sum)
		}
		if got := impl.PositionAt(list, list[0].Day-1); got != 0 {
			t.Fatalf("PositionAt before %v = %d", list, got)
		}
	}
}

func TestP81LotsHaveOneSign(t *testing.T) {
	for _, list := range goodTrades() {
		lots := impl.LotsOf(list)
		if len(lots) > len(list) {
			t.Fatalf("LotsOf(%v) = %v", list, lots)
		}
		for _, x := range lots {
			if x.Many == 0 || sign(x.Many) != sign(lots[0].Many) {
				t.Fatalf("LotsOf(%v) = %v", list, lots)
			}
		}
	}
}

func TestP82GainsAreCash(t *testing.T) {
	for _, list := range goodTrades() {
		_, left := sumOfLots(impl.LotsOf(list))
		received := 0
		for _, x := range list {
			received -= x.Many * x.Price
		}
		if got := impl.GainOf(list); got != received+left {
			t.Fatalf("GainOf(%v) = %d, want %d and %d", list, got, received, left)
		}
	}
}

func TestP83SellingAtTheSamePriceGainsNothing(t *testing.T) {
	for _, list := range goodTrades() {
		for _, price := range []int{1, 100, 50000} {
			same := slices.Clone(list)
			for i := range same {
				same[i].Price = price
			}
			if got := impl.GainOf(same); got != 0 {
				t.Fatalf("GainOf(%v) = %d", same, got)
			}
		}
	}
}

func TestP149LotsAreTrades(t *testing.T) {
	for _, list := range goodTrades() {
		lots := impl.LotsOf(list)
		var again []impl.Trade
		for _, x := range lots {
			again = append(again, impl.Trade{Day: 77, Many: x.Many, Price: x.Price})
		}
		if got := impl.LotsOf(again); !slices.Equal(got, lots) || !impl.ValidTrades(again) || impl.GainOf(again) != 0 {
			t.Fatalf("LotsOf(%v) = %v, of %v", again, got, lots)
		}
	}
}

func TestP150PositionsCanBeClosed(t *testing.T) {
	closed := 0
	for _, list := range goodTrades() {
		sum, value := sumOfLots(impl.LotsOf(list))
		if sum == 0 || sum*sign(sum) > impl.MaxMany || len(list) >= impl.MaxTrades {
			continue
		}
		for _, price := range []int{1, 95, 50000} {
			more := append(slices.Clone(list), impl.Trade{Day: list[len(list)-1].Day, Many: -sum, Price: price})
			if lots := impl.LotsOf(more); len(lots) != 0 {
				t.Fatalf("LotsOf(%v) = %v", more, lots)
			}
			if got, want := impl.GainOf(more), impl.GainOf(list)+sum*price-value; got != want {
				t.Fatalf("GainOf(%v) = %d, want %d", more, got, want)
			}
		}
		closed++
	}
	if closed < 10000 {
		t.Errorf("only %d positions are closed", closed)
	}
}

func TestTradesStay(t *testing.T) {
	list := []impl.Trade{{Day: 1, Many: 10, Price: 100}, {Day: 2, Many: -4, Price: 110}, {Day: 3, Many: -10, Price: 90}, {Day: 4, Many: 1, Price: 1}}
	h := []int{3, 8, 9}
	wantList, wantHolidays := slices.Clone(list), slices.Clone(h)
	impl.SettleDay(h[:2], 2, 3)
	impl.ValidTrades(list[:3])
	impl.PositionAt(list[:3], 2)
	impl.GainOf(list[:3])
	first, second := impl.LotsOf(list[:2]), impl.LotsOf(list[:2])
	first[0] = impl.Lot{Many: 99, Price: 99}
	_ = append(first, impl.Lot{Many: 98, Price: 98})
	if !slices.Equal(second, []impl.Lot{{Many: 6, Price: 100}}) || !slices.Equal(impl.LotsOf(list[:2]), second) {
		t.Errorf("LotsOf twice: %v, %v", first, second)
	}
	if !slices.Equal(list, wantList) || !slices.Equal(h, wantHolidays) {
		t.Errorf("functions of trades leave %v of %v, %v of %v", list, wantList, h, wantHolidays)
	}
}
