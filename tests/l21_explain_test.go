package tests

import (
	"testing"

	"loop.example/bonddesk/impl"
)

// couponPrices are coupons that each bond may have paid.
var couponPrices = []int{0, 1, 75, 50000}

// otherPrices are numbers that are no prices.
var otherPrices = append([]int{-1, -50000, impl.MaxPrice + 1, 2 * impl.MaxPrice}, extremes...)

// costs are amounts that purchases may have cost, or for which bonds were sold if they are negative.
var costs = []int{0, 1, -1, 210, -59700, impl.MaxAmount, -impl.MaxAmount}

// otherCosts are numbers that are no amounts.
var otherCosts = append([]int{impl.MaxAmount + 1, -impl.MaxAmount - 1, 2 * impl.MaxAmount}, extremes...)

// goodMarks returns valid positions, among them sold and empty ones and those at the limits.
func goodMarks() []impl.Mark {
	var out []impl.Mark
	for _, many := range []int{-9999, -3, -1, 0, 1, 7, 9999} {
		for _, clean := range []int{0, 1, 9900, 50000} {
			for _, accrued := range []int{0, 1, 250, 50000} {
				out = append(out, impl.Mark{Many: many, Clean: clean, Accrued: accrued})
			}
		}
	}
	return out
}

// badMarks returns positions that are not valid, most of them by one field.
func badMarks() []impl.Mark {
	out := []impl.Mark{{Many: 10000, Clean: -1, Accrued: -1}, {Clean: -1, Accrued: 1}, {Clean: 1, Accrued: -1}, {Many: -1, Clean: -100, Accrued: 200}}
	for _, n := range append([]int{10000, -10000, 1000000}, extremes...) {
		out = append(out, impl.Mark{Many: n, Clean: 9900, Accrued: 50}, impl.Mark{Many: n})
	}
	for _, n := range otherPrices {
		out = append(out, impl.Mark{Many: 10, Clean: n, Accrued: 50}, impl.Mark{Many: 10, Clean: 9900, Accrued: n}, impl.Mark{Clean: n}, impl.Mark{Accrued: n})
	}
	return out
}

// eachGain calls a function with the arguments of many gains that succeed.
func eachGain(f func(a impl.Mark, b impl.Mark, coupon int, cost int)) {
	for i, a := range goodMarks() {
		for k, b := range goodMarks() {
			f(a, b, 0, 0)
			for _, coupon := range couponPrices {
				f(a, b, coupon, costs[(i+k)%len(costs)])
			}
			for _, cost := range costs {
				f(a, b, couponPrices[(i+k)%len(couponPrices)], cost)
			}
		}
	}
}

// worthOf returns WorthOf for a valid position.
func worthOf(t *testing.T, m impl.Mark) int {
	t.Helper()
	worth, ok := impl.WorthOf(m)
	if !ok {
		t.Fatalf("WorthOf(%v) is refused", m)
	}
	return worth
}

// gainBetween returns GainBetween for valid arguments.
func gainBetween(t *testing.T, a impl.Mark, b impl.Mark, coupon int, cost int) int {
	t.Helper()
	gain, ok := impl.GainBetween(a, b, coupon, cost)
	if !ok {
		t.Fatalf("GainBetween(%v, %v, %d, %d) is refused", a, b, coupon, cost)
	}
	return gain
}

// partsOf returns ExplainGain for valid arguments.
func partsOf(t *testing.T, a impl.Mark, b impl.Mark, coupon int, cost int) impl.Parts {
	t.Helper()
	parts, ok := impl.ExplainGain(a, b, coupon, cost)
	if !ok {
		t.Fatalf("ExplainGain(%v, %v, %d, %d) is refused", a, b, coupon, cost)
	}
	return parts
}

// plainParts is ExplainGain of valid arguments, each product by itself.
func plainParts(a impl.Mark, b impl.Mark, coupon int, cost int) impl.Parts {
	return impl.Parts{
		Carry: a.Many*b.Accrued - a.Many*a.Accrued + a.Many*coupon,
		Price: a.Many*b.Clean - a.Many*a.Clean,
		Trade: b.Many*b.Clean + b.Many*b.Accrued - a.Many*b.Clean - a.Many*b.Accrued - cost,
	}
}

// checkNoGain checks that there is no gain with these arguments.
func checkNoGain(t *testing.T, a impl.Mark, b impl.Mark, coupon int, cost int) {
	t.Helper()
	if got, ok := impl.ExplainGain(a, b, coupon, cost); ok || got != (impl.Parts{}) {
		t.Errorf("ExplainGain(%v, %v, %d, %d) = %v, %v", a, b, coupon, cost, got, ok)
	}
	if got, ok := impl.GainBetween(a, b, coupon, cost); ok || got != 0 {
		t.Errorf("GainBetween(%v, %v, %d, %d) = %d, %v", a, b, coupon, cost, got, ok)
	}
}

func TestInvalidMarks(t *testing.T) {
	for _, bad := range badMarks() {
		if got, ok := impl.WorthOf(bad); ok || got != 0 {
			t.Errorf("WorthOf(%v) = %d, %v", bad, got, ok)
		}
		for _, good := range goodMarks() {
			checkNoGain(t, bad, good, 1, 210)
			checkNoGain(t, good, bad, 1, 210)
		}
		checkNoGain(t, bad, bad, 0, 0)
	}
}

func TestInvalidCouponsAndCosts(t *testing.T) {
	for _, a := range goodMarks() {
		b := impl.Mark{Many: 7, Clean: 9900, Accrued: 250}
		for _, coupon := range otherPrices {
			checkNoGain(t, a, b, coupon, 210)
			checkNoGain(t, b, a, coupon, 0)
		}
		for _, cost := range otherCosts {
			checkNoGain(t, a, b, 75, cost)
			checkNoGain(t, b, a, 0, cost)
		}
	}
}

func TestWorthByHand(t *testing.T) {
	for _, x := range []struct {
		m    impl.Mark
		want int
	}{
		{impl.Mark{}, 0}, {impl.Mark{Many: 10, Clean: 100, Accrued: 1}, 1010}, {impl.Mark{Many: -10, Clean: 100, Accrued: 1}, -1010}, {impl.Mark{Clean: 9900, Accrued: 50}, 0},
		{impl.Mark{Many: 3, Clean: 9900}, 29700}, {impl.Mark{Many: 3, Accrued: 50}, 150}, {impl.Mark{Many: 9999}, 0},
		{impl.Mark{Many: 9999, Clean: 50000, Accrued: 50000}, 999900000}, {impl.Mark{Many: -9999, Clean: 50000, Accrued: 50000}, -999900000},
	} {
		if got, ok := impl.WorthOf(x.m); !ok || got != x.want {
			t.Errorf("WorthOf(%v) = %d, %v, want %d", x.m, got, ok, x.want)
		}
	}
}

func TestGainsByHand(t *testing.T) {
	for _, x := range []struct {
		name         string
		a, b         impl.Mark
		coupon, cost int
		want         impl.Parts
		gain         int
	}{
		{"bought at the second price", impl.Mark{Many: 10, Clean: 100, Accrued: 1}, impl.Mark{Many: 12, Clean: 103, Accrued: 2}, 0, 210, impl.Parts{Carry: 10, Price: 30}, 40},
		{"bought for less", impl.Mark{Many: 10, Clean: 100, Accrued: 1}, impl.Mark{Many: 12, Clean: 103, Accrued: 2}, 0, 200, impl.Parts{Carry: 10, Price: 30, Trade: 10}, 50},
		{"sold behind a coupon", impl.Mark{Many: 10, Clean: 9900, Accrued: 50}, impl.Mark{Many: 4, Clean: 9950, Accrued: 20}, 200, -59700, impl.Parts{Carry: 1700, Price: 500, Trade: -120}, 2080},
		{"a sold position", impl.Mark{Many: -5, Clean: 10000}, impl.Mark{Many: -5, Clean: 9900, Accrued: 10}, 0, 0, impl.Parts{Carry: -50, Price: 500}, 450},
		{"a sold position pays the coupon", impl.Mark{Many: -5, Clean: 10000, Accrued: 100}, impl.Mark{Many: -5, Clean: 10000}, 150, 0, impl.Parts{Carry: -250}, -250},
		{"from sold to bought", impl.Mark{Many: -3, Clean: 100, Accrued: 5}, impl.Mark{Many: 2, Clean: 90, Accrued: 6}, 4, 470, impl.Parts{Carry: -15, Price: 30, Trade: 10}, 25},
		{"an empty position gets no coupon", impl.Mark{Clean: 50000, Accrued: 50000}, impl.Mark{Many: 1, Clean: 1, Accrued: 1}, 50000, 2, impl.Parts{}, 0},
		{"a closed position", impl.Mark{Many: 7, Clean: 100, Accrued: 2}, impl.Mark{Clean: 90, Accrued: 3}, 1, -700, impl.Parts{Carry: 14, Price: -70, Trade: 49}, -7},
		{"a cost without bonds", impl.Mark{Many: 7, Clean: 1, Accrued: 1}, impl.Mark{Many: 7, Clean: 1, Accrued: 1}, 0, 5, impl.Parts{Trade: -5}, -5},
		{"an amount without bonds", impl.Mark{Many: 7, Clean: 1, Accrued: 1}, impl.Mark{Many: 7, Clean: 1, Accrued: 1}, 0, -5, impl.Parts{Trade: 5}, 5},
		{"the limits", impl.Mark{Many: 9999}, impl.Mark{Many: -9999, Clean: 50000, Accrued: 50000}, 50000, 1000000000, impl.Parts{Carry: 999900000, Price: 499950000, Trade: -2999800000}, -1499950000},
		{"the other limits", impl.Mark{Many: -9999, Clean: 50000, Accrued: 50000}, impl.Mark{Many: 9999}, 50000, -1000000000, impl.Parts{Price: 499950000, Trade: 1000000000}, 1499950000},
	} {
		if got, ok := impl.ExplainGain(x.a, x.b, x.coupon, x.cost); !ok || got != x.want {
			t.Errorf("%s: ExplainGain = %v, %v, want %v", x.name, got, ok, x.want)
		}
		if got, ok := impl.GainBetween(x.a, x.b, x.coupon, x.cost); !ok || got != x.gain {
			t.Errorf("%s: GainBetween = %d, %v, want %d", x.name, got, ok, x.gain)
		}
	}
}

func TestGainsAreExact(t *testing.T) {
	eachGain(func(a impl.Mark, b impl.Mark, coupon int, cost int) {
		want := plainParts(a, b, coupon, cost)
		if got := partsOf(t, a, b, coupon, cost); got != want {
			t.Fatalf("ExplainGain(%v, %v, %d, %d) = %v, want %v", a, b, coupon, cost, got, want)
		}
		gain := b.Many*b.Clean + b.Many*b.Accrued - a.Many*a.Clean - a.Many*a.Accrued + a.Many*coupon - cost
		if got := gainBetween(t, a, b, coupon, cost); got != gain {
			t.Fatalf("GainBetween(%v, %v, %d, %d) = %d, want %d", a, b, coupon, cost, got, gain)
		}
	})
}

func TestP104ValuesAreProducts(t *testing.T) {
	for many := -4999; many <= 4999; many += 7 {
		for _, m := range goodMarks() {
			m.Many = many
			twice := m
			twice.Many = 2 * many
			if got, want := worthOf(t, twice), 2*worthOf(t, m); got != want {
				t.Fatalf("WorthOf(%v) = %d, want %d", twice, got, want)
			}
			if got, want := worthOf(t, m), many*(m.Clean+m.Accrued); got != want {
				t.Fatalf("WorthOf(%v) = %d, want %d", m, got, want)
			}
		}
	}
}

func TestP105PartsAreTheWhole(t *testing.T) {
	eachGain(func(a impl.Mark, b impl.Mark, coupon int, cost int) {
		parts := partsOf(t, a, b, coupon, cost)
		if got, want := parts.Carry+parts.Price+parts.Trade, gainBetween(t, a, b, coupon, cost); got != want {
			t.Fatalf("ExplainGain(%v, %v, %d, %d) = %v, the gain %d", a, b, coupon, cost, parts, want)
		}
	})
}

func TestP106NothingHappensToWhatStays(t *testing.T) {
	for _, a := range goodMarks() {
		if got := partsOf(t, a, a, 0, 0); got != (impl.Parts{}) {
			t.Errorf("ExplainGain(%v, the same, 0, 0) = %v", a, got)
		}
		for _, b := range goodMarks() {
			b.Many = a.Many
			for _, coupon := range couponPrices {
				if got := partsOf(t, a, b, coupon, 0); got.Trade != 0 {
					t.Errorf("ExplainGain(%v, %v, %d, 0) = %v", a, b, coupon, got)
				}
			}
		}
	}
}

func TestP107GainsAreValues(t *testing.T) {
	for _, a := range goodMarks() {
		for _, b := range goodMarks() {
			if got, want := gainBetween(t, a, b, 0, 0), worthOf(t, b)-worthOf(t, a); got != want {
				t.Fatalf("GainBetween(%v, %v, 0, 0) = %d, want %d", a, b, got, want)
			}
		}
	}
}
