package tests

import (
	"math/big"
	"testing"

	"loop.example/bonddesk/impl"
)

// haircuts are haircuts in ascending order.
var haircuts = []int{0, 1, 20, 333, 499, 500}

// pledgePrices are prices of bonds that are pledged, in ascending order.
var pledgePrices = []int{1, 2, 3, 97, 9999, 10000, 10001, 49999, 50000}

// noPledgePrices are numbers that are no prices of bonds that are pledged or traded.
var noPledgePrices = append([]int{-1, 0, -10000, impl.MaxPrice + 1, 2 * impl.MaxPrice}, extremes...)

// goodRepos returns valid loans, among them those with the least and the greatest numbers.
func goodRepos() []impl.Repo {
	var out []impl.Repo
	for _, cash := range []int{1, 2, 3, 999, 1000, 1001, 123457, 1000000, 99999999, 100000000} {
		for _, rate := range rates {
			for _, x := range interestDays {
				for _, haircut := range haircuts {
					out = append(out, impl.Repo{Cash: cash, Rate: rate, From: x[0], To: x[1], Haircut: haircut})
				}
			}
		}
	}
	return out
}

// badRepos returns loans that are not valid, each by one of its numbers.
func badRepos() []impl.Repo {
	good := impl.Repo{Cash: 1000000, Rate: 360, From: 100, To: 110, Haircut: 20}
	out := []impl.Repo{{}, {Cash: 1000000, Rate: 360, From: 110, To: 109, Haircut: 20}, {Cash: 1000000, Rate: 360, From: 100, To: 4101, Haircut: 20}}
	add := func(change func(r *impl.Repo, n int), numbers ...int) {
		for _, n := range append(numbers, extremes...) {
			r := good
			change(&r, n)
			out = append(out, r)
		}
	}
	add(func(r *impl.Repo, n int) { r.Cash = n }, -1, 0, -1000000, impl.MaxPrincipal+1)
	add(func(r *impl.Repo, n int) { r.Rate = n }, -1, impl.MaxRate+1)
	add(func(r *impl.Repo, n int) { r.Haircut = n }, -1, impl.MaxHaircut+1, 1000, 1001)
	add(func(r *impl.Repo, n int) { r.From = n }, -1, 111, impl.MaxDay+1)
	add(func(r *impl.Repo, n int) { r.To = n }, -1, 99, impl.MaxDay, impl.MaxDay+1)
	add(func(r *impl.Repo, n int) { r.From, r.To = n, n }, -1, impl.MaxDay+1)
	add(func(r *impl.Repo, n int) { r.From, r.To = impl.MaxDay, n }, impl.MaxDay+1)
	return out
}

// checkNoRepo checks what the functions return for a loan that is not valid.
func checkNoRepo(t *testing.T, r impl.Repo) {
	t.Helper()
	if impl.ValidRepo(r) || impl.RepoInterest(r) != -1 {
		t.Errorf("ValidRepo(%v) = %v, RepoInterest %d", r, impl.ValidRepo(r), impl.RepoInterest(r))
	}
	for _, price := range pledgePrices {
		if got := impl.PledgeFor(r, price); got != -1 {
			t.Errorf("PledgeFor(%v, %d) = %d", r, price, got)
		}
		for _, many := range []int{0, 1, impl.MaxAmount} {
			if got := impl.MarginCall(r, price, many); got != -1 {
				t.Errorf("MarginCall(%v, %d, %d) = %d", r, price, many, got)
			}
		}
	}
	for _, to := range []int{0, 99, 100, 110, 120, r.To, impl.MaxDay} {
		if next, ok := impl.RollRepo(r, to, 100); ok || next != (impl.Repo{}) {
			t.Errorf("RollRepo(%v, %d, 100) = %v, %v", r, to, next, ok)
		}
	}
}

func TestRepoLimits(t *testing.T) {
	if impl.MaxHaircut != 500 {
		t.Errorf("MaxHaircut = %d", impl.MaxHaircut)
	}
	for _, r := range []impl.Repo{
		{Cash: 1}, {Cash: 100000000, Rate: 3000, To: 4000, Haircut: 500}, {Cash: 5, From: 36524, To: 36524}, {Cash: 5, From: 32524, To: 36524, Haircut: 1},
	} {
		if !impl.ValidRepo(r) {
			t.Errorf("%v is not valid", r)
		}
	}
	for _, r := range goodRepos() {
		if !impl.ValidRepo(r) {
			t.Fatalf("%v is not valid", r)
		}
	}
}

func TestInvalidRepos(t *testing.T) {
	for _, r := range badRepos() {
		checkNoRepo(t, r)
	}
}

func TestRepoInterestIsRounded(t *testing.T) {
	for _, r := range goodRepos() {
		want := rounded(new(big.Rat).Mul(big.NewRat(int64(r.Cash*r.Rate), 10000), big.NewRat(int64(r.To-r.From), 360)))
		if got := impl.RepoInterest(r); got != want {
			t.Fatalf("RepoInterest(%v) = %d, want %d", r, got, want)
		}
	}
}

func TestRepoInterestByHand(t *testing.T) {
	for _, x := range []struct {
		r    impl.Repo
		want int
	}{
		{impl.Repo{Cash: 1000000, Rate: 360, To: 10}, 1000},
		{impl.Repo{Cash: 5000, Rate: 1, To: 360}, 1},
		{impl.Repo{Cash: 4999, Rate: 1, To: 360}, 0},
		{impl.Repo{Cash: 15000, Rate: 1, To: 360, Haircut: 500}, 2},
		// 366 days of a leap year are more than a year of 360 days.
		{impl.Repo{Cash: 360000, Rate: 1000, From: day(2020, 1, 1), To: day(2021, 1, 1)}, 36600},
	} {
		if got := impl.RepoInterest(x.r); got != x.want {
			t.Errorf("RepoInterest(%v) = %d, want %d", x.r, got, x.want)
		}
	}
}

func TestPledgesByHand(t *testing.T) {
	for _, x := range []struct {
		cash, haircut, price, want int
	}{
		{1000000, 0, 10000, 100},
		{1000001, 0, 10000, 101},
		{1000000, 20, 10000, 103},
		{980000, 20, 10000, 100},
		{980001, 20, 10000, 101},
		{100, 500, 100, 2},
		{101, 500, 100, 3},
		{1, 0, 50000, 1},
		{1, 500, 1, 2},
		{1, 1, 1, 2},
		{999, 1, 1, 1000},
		{100000000, 500, 1, 200000000},
		{100000000, 0, 1, 100000000},
		{100000000, 500, 50000, 4000},
	} {
		r := impl.Repo{Cash: x.cash, Haircut: x.haircut}
		if got := impl.PledgeFor(r, x.price); got != x.want {
			t.Errorf("PledgeFor(%v, %d) = %d, want %d", r, x.price, got, x.want)
		}
	}
}

func TestPledgesOfInvalidPrices(t *testing.T) {
	r := impl.Repo{Cash: 1000000, Rate: 360, To: 10, Haircut: 20}
	for _, price := range noPledgePrices {
		if got := impl.PledgeFor(r, price); got != -1 {
			t.Errorf("PledgeFor(%v, %d) = %d", r, price, got)
		}
		for _, many := range append([]int{0, 1, 103, impl.MaxAmount}, extremes...) {
			if got := impl.MarginCall(r, price, many); got != -1 {
				t.Errorf("MarginCall(%v, %d, %d) = %d", r, price, many, got)
			}
		}
	}
}

func TestMarginCallsByHand(t *testing.T) {
	r := impl.Repo{Cash: 1000000, Rate: 360, To: 10, Haircut: 20}
	for _, x := range []struct {
		many, want int
	}{{0, 103}, {1, 102}, {100, 3}, {102, 1}, {103, 0}, {104, 0}, {200, 0}, {999999999, 0}, {1000000000, 0}, {1000000001, -1}, {-1, -1}, {-103, -1}} {
		if got := impl.MarginCall(r, 10000, x.many); got != x.want {
			t.Errorf("MarginCall(%v, 10000, %d) = %d, want %d", r, x.many, got, x.want)
		}
	}
	for _, many := range extremes {
		if got := impl.MarginCall(r, 10000, many); got != -1 {
			t.Errorf("MarginCall(%v, 10000, %d) = %d", r, many, got)
		}
	}
}

func TestRollReposByHand(t *testing.T) {
	r := impl.Repo{Cash: 1000000, Rate: 360, From: 100, To: 110, Haircut: 20}
	for _, x := range []struct {
		to, rate int
		ok       bool
	}{
		{110, 360, true}, {111, 360, true}, {120, 0, true}, {120, 3000, true}, {120, 3001, false}, {120, -1, false}, {109, 0, false}, {100, 0, false},
		{0, 0, false}, {-1, 0, false}, {4110, 5, true}, {4111, 5, false}, {impl.MaxDay, 5, false}, {impl.MaxDay + 1, 5, false},
	} {
		want := impl.Repo{}
		if x.ok {
			want = impl.Repo{Cash: 1001000, Rate: x.rate, From: 110, To: x.to, Haircut: 20}
		}
		if got, ok := impl.RollRepo(r, x.to, x.rate); ok != x.ok || got != want {
			t.Errorf("RollRepo(%v, %d, %d) = %v, %v, want %v", r, x.to, x.rate, got, ok, want)
		}
	}
	for _, n := range extremes {
		if got, ok := impl.RollRepo(r, n, 0); ok || got != (impl.Repo{}) {
			t.Errorf("RollRepo(%v, %d, 0) = %v, %v", r, n, got, ok)
		}
		if got, ok := impl.RollRepo(r, 120, n); ok || got != (impl.Repo{}) {
			t.Errorf("RollRepo(%v, 120, %d) = %v, %v", r, n, got, ok)
		}
	}
}

func TestRollReposToTheLimits(t *testing.T) {
	// A quarter of the cash is its interest: 80000000 becomes the greatest principal.
	most := impl.Repo{Cash: 80000000, Rate: 2500, From: 0, To: 360}
	if got, ok := impl.RollRepo(most, 400, 1); !ok || got != (impl.Repo{Cash: 100000000, Rate: 1, From: 360, To: 400}) {
		t.Errorf("RollRepo(%v, 400, 1) = %v, %v", most, got, ok)
	}
	most.Cash++
	if got, ok := impl.RollRepo(most, 400, 1); ok || got != (impl.Repo{}) {
		t.Errorf("RollRepo(%v, 400, 1) = %v, %v", most, got, ok)
	}
	free := impl.Repo{Cash: 100000000, From: 0, To: 4000, Haircut: 500}
	if got, ok := impl.RollRepo(free, 4000, 3000); !ok || got != (impl.Repo{Cash: 100000000, Rate: 3000, From: 4000, To: 4000, Haircut: 500}) {
		t.Errorf("RollRepo(%v, 4000, 3000) = %v, %v", free, got, ok)
	}
	last := impl.Repo{Cash: 1, From: impl.MaxDay - 1, To: impl.MaxDay - 1}
	if got, ok := impl.RollRepo(last, impl.MaxDay, 0); !ok || got != (impl.Repo{Cash: 1, From: impl.MaxDay - 1, To: impl.MaxDay}) {
		t.Errorf("RollRepo(%v, MaxDay, 0) = %v, %v", last, got, ok)
	}
	if got, ok := impl.RollRepo(last, impl.MaxDay+1, 0); ok || got != (impl.Repo{}) {
		t.Errorf("RollRepo(%v, MaxDay + 1, 0) = %v, %v", last, got, ok)
	}
}

func TestP73LoansCanBeLarger(t *testing.T) {
	for _, r := range goodRepos() {
		r.Cash++
		if got, want := impl.ValidRepo(r), r.Cash <= 100000000; got != want {
			t.Fatalf("ValidRepo(%v) = %v", r, got)
		}
	}
}

func TestP74LongerLoansCostMore(t *testing.T) {
	for _, r := range goodRepos() {
		none := r
		none.To = none.From
		if got := impl.RepoInterest(none); got != 0 {
			t.Fatalf("RepoInterest(%v) = %d", none, got)
		}
		longer := r
		longer.To++
		if impl.ValidRepo(longer) && impl.RepoInterest(longer) < impl.RepoInterest(r) {
			t.Fatalf("RepoInterest(%v) = %d, and with a day more %d", r, impl.RepoInterest(r), impl.RepoInterest(longer))
		}
	}
	r := impl.Repo{Cash: 7777, Rate: 2345}
	for before := 0; r.To <= 4000; r.To++ {
		got := impl.RepoInterest(r)
		if got < before {
			t.Fatalf("RepoInterest(%v) = %d behind %d", r, got, before)
		}
		before = got
	}
}

func TestP75PledgesAreEnough(t *testing.T) {
	for _, r := range goodRepos() {
		for _, price := range pledgePrices {
			got := impl.PledgeFor(r, price)
			worth := func(many int) int { return many * price * (1000 - r.Haircut) }
			if got < 1 || worth(got) < 1000*r.Cash || worth(got-1) >= 1000*r.Cash {
				t.Fatalf("PledgeFor(%v, %d) = %d", r, price, got)
			}
		}
	}
}

func TestP76CallsFillUp(t *testing.T) {
	for _, r := range goodRepos() {
		for _, price := range []int{1, 97, 10001, 50000} {
			need := impl.PledgeFor(r, price)
			for _, many := range []int{0, 1, need / 2, need - 1, need, need + 1, impl.MaxAmount} {
				missing := impl.MarginCall(r, price, many)
				if missing != max(need-many, 0) || impl.MarginCall(r, price, many+missing) != 0 {
					t.Fatalf("MarginCall(%v, %d, %d) = %d of %d", r, price, many, missing, need)
				}
			}
			if impl.MarginCall(r, price, need) != 0 || impl.MarginCall(r, price, need-1) != 1 {
				t.Fatalf("MarginCall(%v, %d, %d) = %d", r, price, need, impl.MarginCall(r, price, need))
			}
		}
	}
}

func TestP77InterestIsLentOn(t *testing.T) {
	seen := map[bool]int{}
	for _, r := range goodRepos() {
		for _, days := range []int{0, 1, 30, 4000, 4001} {
			want := impl.Repo{Cash: r.Cash + impl.RepoInterest(r), Rate: 123, From: r.To, To: r.To + days, Haircut: r.Haircut}
			valid := want.Cash <= 100000000 && want.To <= impl.MaxDay && days <= 4000
			if !valid {
				want = impl.Repo{}
			}
			if got, ok := impl.RollRepo(r, r.To+days, 123); ok != valid || got != want {
				t.Fatalf("RollRepo(%v, %d, 123) = %v, %v, want %v", r, r.To+days, got, ok, want)
			}
			seen[valid]++
		}
	}
	if seen[true] < 1000 || seen[false] < 1000 {
		t.Errorf("valid loans: %v", seen)
	}
}

func TestP148DearerBondsPledgeMore(t *testing.T) {
	for _, r := range goodRepos() {
		before := impl.PledgeFor(r, pledgePrices[0])
		for _, price := range pledgePrices[1:] {
			got := impl.PledgeFor(r, price)
			if got > before {
				t.Fatalf("PledgeFor(%v, %d) = %d, cheaper %d", r, price, got, before)
			}
			before = got
		}
	}
	for _, cash := range []int{1, 1000, 123457, 100000000} {
		for _, price := range pledgePrices {
			before := 0
			for haircut := range 501 {
				got := impl.PledgeFor(impl.Repo{Cash: cash, Haircut: haircut}, price)
				if got < before {
					t.Fatalf("PledgeFor %d at %d with haircut %d = %d behind %d", cash, price, haircut, got, before)
				}
				before = got
			}
		}
	}
}
