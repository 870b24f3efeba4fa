package tests

import (
	"math/big"
	"slices"
	"testing"

	"loop.example/bonddesk/impl"
)

// latticeCoupons are coupons in ascending order.
var latticeCoupons = []int{0, 1, 333, 500, 1200, 2999, 3000}

// callPrices are call prices in percent, in ascending order.
var callPrices = []int{50, 51, 99, 100, 101, 137, 199, 200}

// goodLattices returns valid lattices of all numbers of steps, with the least and the greatest rates.
func goodLattices() []impl.Lattice {
	var out []impl.Lattice
	for steps := 1; steps <= 8; steps++ {
		for _, step := range []int{0, 1, 50, 149, 150} {
			least, most := steps*step, 3000-steps*step
			for _, rate := range []int{least, least + 1, 1500, most - 1, most} {
				out = append(out, impl.Lattice{Steps: steps, Rate: rate, Step: step})
			}
		}
	}
	return out
}

// badLattices returns lattices that are not valid.
func badLattices() []impl.Lattice {
	out := []impl.Lattice{
		{}, {Rate: 500}, {Steps: -1, Rate: 500}, {Steps: 9, Rate: 1500}, {Steps: 9, Rate: 1500, Step: 1}, {Steps: 100, Rate: 1500},
		{Steps: 3, Rate: 1500, Step: -1}, {Steps: 3, Rate: 1500, Step: 151}, {Steps: 1, Rate: 1500, Step: 1000},
		{Steps: 1, Rate: -1}, {Steps: 1, Rate: 3001}, {Steps: 8, Rate: -1}, {Steps: 8, Rate: 3001},
	}
	for steps := 1; steps <= 8; steps++ {
		for _, step := range []int{1, 50, 150} {
			out = append(out, impl.Lattice{Steps: steps, Rate: steps*step - 1, Step: step}, impl.Lattice{Steps: steps, Rate: 3001 - steps*step, Step: step})
		}
	}
	for _, x := range extremes {
		out = append(out, impl.Lattice{Steps: x, Rate: 500}, impl.Lattice{Steps: 3, Rate: x}, impl.Lattice{Steps: 3, Rate: 500, Step: x}, impl.Lattice{Steps: x, Rate: x, Step: x})
	}
	return out
}

// noCalls are numbers that are no call prices.
var noCalls = append([]int{-1, 1, 48, 49, 201, 202, -50, -100, 1000000}, extremes...)

// plainLattice is the range of the value at a node of a valid lattice.
func plainLattice(l impl.Lattice, coupon int, call int, time int, ups int) impl.Range {
	if time == l.Steps {
		return impl.Range{Low: 1000000, High: 1000000}
	}
	x, y := plainLattice(l, coupon, call, time+1, ups), plainLattice(l, coupon, call, time+1, ups+1)
	low := int64(100*coupon + roundedDown(big.NewRat(int64(x.Low+y.Low), 2)))
	high := int64(100*coupon + roundedUp(big.NewRat(int64(x.High+y.High), 2)))
	growth := int64(1000000 + 100*(l.Rate+l.Step*(2*ups-time)))
	r := impl.Range{Low: roundedDown(big.NewRat(low*1000000, growth)), High: roundedUp(big.NewRat(high*1000000, growth))}
	if call != 0 && time >= 1 {
		r = impl.Range{Low: min(r.Low, 10000*call), High: min(r.High, 10000*call)}
	}
	return r
}

// exactLattice is the value at a node of a valid lattice without any rounding.
func exactLattice(l impl.Lattice, coupon int, call int, time int, ups int) *big.Rat {
	if time == l.Steps {
		return big.NewRat(1, 1)
	}
	value := new(big.Rat).Add(exactLattice(l, coupon, call, time+1, ups), exactLattice(l, coupon, call, time+1, ups+1))
	value.Quo(value, big.NewRat(2, 1))
	value.Add(value, big.NewRat(int64(coupon), 10000))
	value.Quo(value, big.NewRat(int64(10000+l.Rate+l.Step*(2*ups-time)), 10000))
	if price := big.NewRat(int64(call), 100); call != 0 && time >= 1 && value.Cmp(price) > 0 {
		return price
	}
	return value
}

// eachValued calls a function with valid lattices, coupons and call prices.
func eachValued(f func(l impl.Lattice, coupon int, call int)) {
	for _, l := range goodLattices() {
		for _, coupon := range latticeCoupons {
			for _, call := range append([]int{0}, callPrices...) {
				f(l, coupon, call)
			}
		}
	}
}

// eachNode calls a function with the nodes of valid lattices.
func eachNode(f func(l impl.Lattice, time int, ups int)) {
	for _, l := range goodLattices() {
		for time := range l.Steps {
			for ups := range time + 1 {
				f(l, time, ups)
			}
		}
	}
}

// checkNoValue checks that the functions of values reject their arguments.
func checkNoValue(t *testing.T, l impl.Lattice, coupon int, call int) {
	t.Helper()
	if got := impl.LatticeValue(l, coupon, call); got != (impl.Range{}) {
		t.Errorf("LatticeValue(%v, %d, %d) = %v", l, coupon, call, got)
	}
	if got := impl.CallWorth(l, coupon, call); got != (impl.Range{}) {
		t.Errorf("CallWorth(%v, %d, %d) = %v", l, coupon, call, got)
	}
}

func TestLatticeLimits(t *testing.T) {
	if impl.MaxLattice != 8 || impl.MaxMove != 150 {
		t.Errorf("limits = %d, %d", impl.MaxLattice, impl.MaxMove)
	}
}

func TestInvalidLattices(t *testing.T) {
	for _, l := range badLattices() {
		for _, n := range []int{0, 1, 2} {
			if got := impl.RateAt(l, n, 0); got != -1 {
				t.Errorf("RateAt(%v, %d, 0) = %d", l, n, got)
			}
		}
		for _, call := range []int{0, 50, 100, 200} {
			checkNoValue(t, l, 500, call)
		}
	}
}

func TestNodesThatAreNone(t *testing.T) {
	for _, l := range goodLattices() {
		for _, time := range append([]int{-1, l.Steps, l.Steps + 1}, extremes...) {
			for _, ups := range []int{-1, 0, 1, time, l.Steps} {
				if got := impl.RateAt(l, time, ups); got != -1 {
					t.Errorf("RateAt(%v, %d, %d) = %d", l, time, ups, got)
				}
			}
		}
		for time := range l.Steps {
			for _, ups := range append([]int{-1, time + 1, time + 2, -time - 1}, extremes...) {
				if got := impl.RateAt(l, time, ups); got != -1 {
					t.Errorf("RateAt(%v, %d, %d) = %d", l, time, ups, got)
				}
			}
		}
	}
}

func TestLatticesWithInvalidCouponsAndCalls(t *testing.T) {
	for _, l := range goodLattices() {
		for _, coupon := range noRates {
			for _, call := range []int{0, 50, 100, 200} {
				checkNoValue(t, l, coupon, call)
			}
		}
		for _, call := range noCalls {
			for _, coupon := range []int{0, 500, 3000} {
				checkNoValue(t, l, coupon, call)
			}
		}
	}
}

func TestRatesOfNodes(t *testing.T) {
	eachNode(func(l impl.Lattice, time int, ups int) {
		want := l.Rate
		for move := range time {
			if move < ups {
				want += l.Step
			} else {
				want -= l.Step
			}
		}
		if got := impl.RateAt(l, time, ups); got != want {
			t.Fatalf("RateAt(%v, %d, %d) = %d, want %d", l, time, ups, got, want)
		}
	})
	// Seven downs from the least rate of eight steps leave one step; seven ups from the greatest one are one below MaxRate.
	if low, high := impl.RateAt(impl.Lattice{Steps: 8, Rate: 1200, Step: 150}, 7, 0), impl.RateAt(impl.Lattice{Steps: 8, Rate: 1800, Step: 150}, 7, 7); low != 150 || high != 2850 {
		t.Errorf("RateAt = %d, %d", low, high)
	}
}

func TestLatticeValueIsExact(t *testing.T) {
	eachValued(func(l impl.Lattice, coupon int, call int) {
		want := plainLattice(l, coupon, call, 0, 0)
		if got := impl.LatticeValue(l, coupon, call); got != want {
			t.Fatalf("LatticeValue(%v, %d, %d) = %v, want %v", l, coupon, call, got, want)
		}
	})
}

func TestLatticesHaveTheExactValues(t *testing.T) {
	eachValued(func(l impl.Lattice, coupon int, call int) {
		if l.Steps > 5 && coupon != 500 {
			return
		}
		got, want := impl.LatticeValue(l, coupon, call), exactLattice(l, coupon, call, 0, 0)
		if !hasNumber(got, want) || got.High-got.Low > 40 {
			t.Fatalf("LatticeValue(%v, %d, %d) = %v for %v", l, coupon, call, got, want)
		}
	})
}

func TestCallWorthIsTheDifference(t *testing.T) {
	eachValued(func(l impl.Lattice, coupon int, call int) {
		var want impl.Range
		if call != 0 {
			x, y := plainLattice(l, coupon, 0, 0, 0), plainLattice(l, coupon, call, 0, 0)
			want = impl.Range{Low: max(0, x.Low-y.High), High: x.High - y.Low}
		}
		if got := impl.CallWorth(l, coupon, call); got != want {
			t.Fatalf("CallWorth(%v, %d, %d) = %v, want %v", l, coupon, call, got, want)
		}
	})
}

func TestLatticesByHand(t *testing.T) {
	for _, x := range []struct {
		l            impl.Lattice
		coupon, call int
		want         impl.Range
	}{
		{impl.Lattice{Steps: 1}, 0, 0, impl.Range{Low: 1000000, High: 1000000}},
		{impl.Lattice{Steps: 1, Rate: 500, Step: 50}, 0, 0, impl.Range{Low: 952380, High: 952381}},
		{impl.Lattice{Steps: 8, Rate: 500}, 500, 0, impl.Range{Low: 1000000, High: 1000000}},
		{impl.Lattice{Steps: 8}, 3000, 0, impl.Range{Low: 3400000, High: 3400000}},
		// No call is possible at time 0, nor at the last time.
		{impl.Lattice{Steps: 1}, 3000, 50, impl.Range{Low: 1300000, High: 1300000}},
		{impl.Lattice{Steps: 2}, 0, 50, impl.Range{Low: 500000, High: 500000}},
		{impl.Lattice{Steps: 2}, 3000, 50, impl.Range{Low: 800000, High: 800000}},
		{impl.Lattice{Steps: 2}, 3000, 129, impl.Range{Low: 1590000, High: 1590000}},
		{impl.Lattice{Steps: 2}, 3000, 130, impl.Range{Low: 1600000, High: 1600000}},
		{impl.Lattice{Steps: 8}, 3000, 200, impl.Range{Low: 2300000, High: 2300000}},
		// At time 1 the value is 1.1 divided by 1.05, which is 1.0476190...; at time 0 it is 1.1476190 divided by 1.05.
		{impl.Lattice{Steps: 2, Rate: 500}, 1000, 0, impl.Range{Low: 1092970, High: 1092972}},
		{impl.Lattice{Steps: 2, Rate: 500}, 1000, 100, impl.Range{Low: 1047619, High: 1047620}},
		// 1 divided by 1.04 is 0.9615384..., and by 1.06 it is 0.9433962...: the mean is from 0.952467 to 0.952468.
		{impl.Lattice{Steps: 2, Rate: 500, Step: 100}, 0, 0, impl.Range{Low: 907111, High: 907113}},
		// Only the node with the rate 4 percent is worth more than 0.95, which is then in place of 0.9615384...
		{impl.Lattice{Steps: 2, Rate: 500, Step: 100}, 0, 95, impl.Range{Low: 901617, High: 901619}},
	} {
		if got := impl.LatticeValue(x.l, x.coupon, x.call); got != x.want {
			t.Errorf("LatticeValue(%v, %d, %d) = %v, want %v", x.l, x.coupon, x.call, got, x.want)
		}
	}
}

func TestCallsByHand(t *testing.T) {
	for _, x := range []struct {
		l            impl.Lattice
		coupon, call int
		want         impl.Range
	}{
		{impl.Lattice{Steps: 2, Rate: 500}, 1000, 100, impl.Range{Low: 45350, High: 45353}},
		{impl.Lattice{Steps: 8}, 3000, 200, impl.Range{Low: 1100000, High: 1100000}},
		{impl.Lattice{Steps: 8}, 3000, 0, impl.Range{}},
		// A call that is never used is worth nothing, up to the width of the value.
		{impl.Lattice{Steps: 1, Rate: 500, Step: 50}, 0, 100, impl.Range{Low: 0, High: 1}},
		{impl.Lattice{Steps: 1}, 3000, 50, impl.Range{}},
		{impl.Lattice{Steps: 2}, 3000, 130, impl.Range{}},
		{impl.Lattice{Steps: 2}, 3000, 129, impl.Range{Low: 10000, High: 10000}},
	} {
		if got := impl.CallWorth(x.l, x.coupon, x.call); got != x.want {
			t.Errorf("CallWorth(%v, %d, %d) = %v, want %v", x.l, x.coupon, x.call, got, x.want)
		}
	}
}

func TestP68UpsAndDownsCancel(t *testing.T) {
	eachNode(func(l impl.Lattice, time int, ups int) {
		r := impl.RateAt(l, time, ups)
		if r < l.Rate-time*l.Step || r > l.Rate+time*l.Step || r+impl.RateAt(l, time, time-ups) != 2*l.Rate {
			t.Fatalf("RateAt(%v, %d, %d) = %d", l, time, ups, r)
		}
		if time+2 < l.Steps && impl.RateAt(l, time+2, ups+1) != r {
			t.Fatalf("RateAt(%v, %d, %d) = %d, and %d two times before", l, time+2, ups+1, impl.RateAt(l, time+2, ups+1), r)
		}
	})
}

func TestP69RightsToCallCost(t *testing.T) {
	for _, l := range goodLattices() {
		for _, call := range append([]int{0}, callPrices...) {
			var last impl.Range
			for _, coupon := range latticeCoupons {
				r, free := impl.LatticeValue(l, coupon, call), impl.LatticeValue(l, coupon, 0)
				if r.Low > free.Low || r.High > free.High || r.Low < last.Low || r.High < last.High {
					t.Fatalf("LatticeValue(%v, %d, %d) = %v behind %v, without a call %v", l, coupon, call, r, last, free)
				}
				last = r
			}
		}
	}
}

func TestP70WithoutMovesALatticeIsABond(t *testing.T) {
	for steps := 1; steps <= 8; steps++ {
		for _, rate := range spaced(0, 3000, 17) {
			want := big.NewRat(1, 1)
			for range steps {
				want.Mul(want, big.NewRat(10000, int64(10000+rate)))
			}
			l := impl.Lattice{Steps: steps, Rate: rate}
			if got := impl.LatticeValue(l, 0, 0); !hasNumber(got, want) {
				t.Fatalf("LatticeValue(%v, 0, 0) = %v for %v", l, got, want)
			}
		}
	}
}

func TestP71HigherRatesMakeBondsCheaper(t *testing.T) {
	for steps := 1; steps <= 8; steps++ {
		for _, step := range []int{0, 1, 150} {
			for _, coupon := range []int{0, 500, 3000} {
				for _, call := range []int{0, 50, 100, 200} {
					last := impl.Range{Low: impl.MaxMicro, High: impl.MaxMicro}
					for rate := steps * step; rate <= 3000-steps*step; rate += 1 + rate%29 {
						l := impl.Lattice{Steps: steps, Rate: rate, Step: step}
						r := impl.LatticeValue(l, coupon, call)
						if r.Low > last.Low || r.High > last.High || r.Low <= 0 || r.Low > r.High {
							t.Fatalf("LatticeValue(%v, %d, %d) = %v behind %v", l, coupon, call, r, last)
						}
						last = r
					}
				}
			}
		}
	}
}

func TestP72RightsToCallAreWorthSomething(t *testing.T) {
	for _, l := range goodLattices() {
		for _, coupon := range latticeCoupons {
			last := impl.Range{Low: impl.MaxMicro, High: impl.MaxMicro}
			for _, call := range callPrices {
				r := impl.CallWorth(l, coupon, call)
				if r.Low < 0 || r.High < r.Low || r.Low > last.Low || r.High > last.High {
					t.Fatalf("CallWorth(%v, %d, %d) = %v behind %v", l, coupon, call, r, last)
				}
				last = r
			}
		}
	}
}

func TestP147CallsAboveTheValueCostNothing(t *testing.T) {
	for _, l := range goodLattices() {
		for _, coupon := range latticeCoupons {
			r, free := impl.LatticeValue(l, coupon, 200), impl.LatticeValue(l, coupon, 0)
			if r.Low > free.Low || r.High > free.High || l.Step == 0 && coupon < l.Rate && r != free {
				t.Fatalf("LatticeValue(%v, %d, 200) = %v, without a call %v", l, coupon, r, free)
			}
		}
	}
	for _, coupon := range slices.Concat(spaced(0, 499, 13), spaced(490, 499, 1)) {
		l := impl.Lattice{Steps: 8, Rate: 500}
		if r, free := impl.LatticeValue(l, coupon, 200), impl.LatticeValue(l, coupon, 0); r != free {
			t.Errorf("LatticeValue(%v, %d, 200) = %v, without a call %v", l, coupon, r, free)
		}
	}
}
