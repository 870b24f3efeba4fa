package tests

import (
	"math/rand/v2"
	"slices"
	"testing"

	"loop.example/bonddesk/impl"
)

// otherAccounts are numbers that are no accounts.
var otherAccounts = append([]int{-1, impl.MaxAccount + 1, 9, -5}, extremes...)

// pairPosts returns a posting from each account to each other one.
func pairPosts() []impl.Post {
	var out []impl.Post
	for from := range 6 {
		for to := range 6 {
			if from != to {
				out = append(out, impl.Post{From: from, To: to, Amount: 1 + 10*from + to})
			}
		}
	}
	return out
}

// randomPosts returns valid postings, up to 40 of them, with small and large amounts; those between few accounts cancel
// often.
func randomPosts() [][]impl.Post {
	r := rand.New(rand.NewPCG(16, 1))
	var lists [][]impl.Post
	for size := range 41 {
		for i := range 60 {
			accounts, limit := []int{2, 3, 6}[i%3], []int{2, 5, 1000, 1000000000}[i%4]
			list := make([]impl.Post, size)
			for k := range list {
				from := r.IntN(accounts)
				to := (from + 1 + r.IntN(accounts-1)) % accounts
				list[k] = impl.Post{From: from, To: to, Amount: 1 + r.IntN(limit)}
			}
			lists = append(lists, list)
		}
	}
	return lists
}

// goodPosts returns valid postings, among them those at the limits.
func goodPosts() [][]impl.Post {
	most := impl.Post{From: 5, To: 0, Amount: 1000000000}
	back := impl.Post{From: 0, To: 5, Amount: 1000000000}
	lists := [][]impl.Post{
		nil, {}, {{From: 0, To: 1, Amount: 1}}, {most}, {back}, {most, back}, {most, most}, {back, back}, pairPosts(),
		slices.Repeat([]impl.Post{most}, 40), slices.Repeat([]impl.Post{back}, 40), slices.Repeat([]impl.Post{most, back}, 20),
	}
	for _, x := range pairPosts() {
		y := impl.Post{From: x.To, To: x.From, Amount: x.Amount}
		lists = append(lists, []impl.Post{x}, []impl.Post{x, y}, []impl.Post{x, x}, []impl.Post{x, y, x})
	}
	for _, list := range goodTrades() {
		if len(list) > 4 {
			lists = append(lists, impl.PostTrades(list))
		}
	}
	return append(lists, randomPosts()...)
}

// badPosts returns postings that are not valid, each by one of them, at the beginning, within, or at the end.
func badPosts() [][]impl.Post {
	good := []impl.Post{{From: 0, To: 1, Amount: 5}, {From: 3, To: 2, Amount: 7}}
	lists := [][]impl.Post{slices.Repeat(good[:1], 41), slices.Repeat(good, 21), slices.Repeat(good, 100)}
	var wrong []impl.Post
	for account := range 6 {
		wrong = append(wrong, impl.Post{From: account, To: account, Amount: 5})
	}
	for _, n := range otherAccounts {
		wrong = append(wrong, impl.Post{From: n, To: 1, Amount: 5}, impl.Post{From: 1, To: n, Amount: 5}, impl.Post{From: n, To: n, Amount: 5})
	}
	for _, n := range append([]int{-1, 0, -5, impl.MaxAmount + 1, -impl.MaxAmount}, extremes...) {
		wrong = append(wrong, impl.Post{From: 0, To: 1, Amount: n}, impl.Post{From: 1, To: 0, Amount: n})
	}
	for _, x := range wrong {
		lists = append(lists, []impl.Post{x})
		for k := range len(good) + 1 {
			lists = append(lists, slices.Insert(slices.Clone(good), k, x))
		}
	}
	return lists
}

// plainMoved returns what valid postings move from an account to another one.
func plainMoved(list []impl.Post, from int, to int) int {
	sum := 0
	for _, x := range list {
		if x.From == from && x.To == to {
			sum += x.Amount
		}
	}
	return sum
}

// plainBalance is BalanceOf valid postings.
func plainBalance(list []impl.Post, account int) int {
	balance := 0
	for other := range 6 {
		if other != account {
			balance += plainMoved(list, other, account) - plainMoved(list, account, other)
		}
	}
	return balance
}

// plainNet is NetPosts of valid postings.
func plainNet(list []impl.Post) ([]impl.Post, bool) {
	var out []impl.Post
	for a := range 6 {
		for b := a + 1; b < 6; b++ {
			there, back := plainMoved(list, a, b), plainMoved(list, b, a)
			if there > back {
				out = append(out, impl.Post{From: a, To: b, Amount: there - back})
			} else if back > there {
				out = append(out, impl.Post{From: b, To: a, Amount: back - there})
			}
		}
	}
	if slices.ContainsFunc(out, func(x impl.Post) bool { return x.Amount > 1000000000 }) {
		return nil, false
	}
	return out, true
}

// exchanged returns postings with From and To exchanged.
func exchanged(list []impl.Post) []impl.Post {
	out := slices.Clone(list)
	for i, x := range list {
		out[i].From, out[i].To = x.To, x.From
	}
	return out
}

func TestLedgerLimits(t *testing.T) {
	if got := [4]int{impl.MaxAccount, impl.MaxPosts, impl.AccountCash, impl.AccountBonds}; got != [4]int{5, 40, 0, 1} {
		t.Errorf("limits and accounts = %v", got)
	}
	for _, list := range goodPosts() {
		if !impl.ValidPosts(list) {
			t.Fatalf("%v are not valid", list)
		}
	}
}

func TestInvalidPosts(t *testing.T) {
	for _, list := range badPosts() {
		if impl.ValidPosts(list) {
			t.Errorf("%v are valid", list)
		}
		for _, account := range append([]int{0, 1, 2, 3, 4, 5}, otherAccounts...) {
			if got := impl.BalanceOf(list, account); got != 0 {
				t.Errorf("BalanceOf(%v, %d) = %d", list, account, got)
			}
		}
		if net, ok := impl.NetPosts(list); ok || net != nil {
			t.Errorf("NetPosts(%v) = %v, %v", list, net, ok)
		}
	}
}

func TestBalancesAreExact(t *testing.T) {
	for _, list := range goodPosts() {
		for account := range 6 {
			if got, want := impl.BalanceOf(list, account), plainBalance(list, account); got != want {
				t.Fatalf("BalanceOf(%v, %d) = %d, want %d", list, account, got, want)
			}
		}
		for _, account := range otherAccounts {
			if got := impl.BalanceOf(list, account); got != 0 {
				t.Fatalf("BalanceOf(%v, %d) = %d", list, account, got)
			}
		}
	}
}

func TestBalancesByHand(t *testing.T) {
	list := []impl.Post{{From: 0, To: 1, Amount: 5}, {From: 1, To: 2, Amount: 3}, {From: 0, To: 2, Amount: 10}, {From: 2, To: 0, Amount: 1}, {From: 4, To: 3, Amount: 6}}
	for account, want := range []int{-14, 2, 12, 6, -6, 0} {
		if got := impl.BalanceOf(list, account); got != want {
			t.Errorf("BalanceOf %d = %d, want %d", account, got, want)
		}
	}
	most := slices.Repeat([]impl.Post{{From: 3, To: 5, Amount: 1000000000}}, 40)
	if impl.BalanceOf(most, 5) != 40000000000 || impl.BalanceOf(most, 3) != -40000000000 || impl.BalanceOf(most, 0) != 0 {
		t.Errorf("BalanceOf the greatest postings = %d, %d", impl.BalanceOf(most, 5), impl.BalanceOf(most, 3))
	}
}

func TestPostTradesAreExact(t *testing.T) {
	for _, list := range goodTrades() {
		posts := impl.PostTrades(list)
		if len(posts) != len(list) {
			t.Fatalf("PostTrades(%v) = %v", list, posts)
		}
		for i, x := range list {
			want := impl.Post{From: 0, To: 1, Amount: x.Many * x.Price}
			if x.Many < 0 {
				want = impl.Post{From: 1, To: 0, Amount: -x.Many * x.Price}
			}
			if posts[i] != want {
				t.Fatalf("PostTrades(%v) = %v", list, posts)
			}
		}
	}
}

func TestPostTradesByHand(t *testing.T) {
	list := []impl.Trade{{Many: 10, Price: 100}, {Many: -4, Price: 110}, {Many: -9999, Price: 50000}, {Many: 9999, Price: 50000}, {Many: 1, Price: 1}}
	want := []impl.Post{{From: 0, To: 1, Amount: 1000}, {From: 1, To: 0, Amount: 440}, {From: 1, To: 0, Amount: 499950000}, {From: 0, To: 1, Amount: 499950000}, {From: 0, To: 1, Amount: 1}}
	if got := impl.PostTrades(list); !slices.Equal(got, want) {
		t.Errorf("PostTrades(%v) = %v, want %v", list, got, want)
	}
	if got := impl.PostTrades(nil); len(got) != 0 {
		t.Errorf("PostTrades(nil) = %v", got)
	}
}

func TestPostTradesOfInvalidTrades(t *testing.T) {
	for _, list := range badTrades() {
		if got := impl.PostTrades(list); got != nil {
			t.Errorf("PostTrades(%v) = %v", list, got)
		}
	}
}

func TestNetPostsAreExact(t *testing.T) {
	seen := map[bool]int{}
	for _, list := range goodPosts() {
		want, valid := plainNet(list)
		if got, ok := impl.NetPosts(list); ok != valid || !slices.Equal(got, want) {
			t.Fatalf("NetPosts(%v) = %v, %v, want %v, %v", list, got, ok, want, valid)
		}
		seen[valid]++
	}
	if seen[true] < 1000 || seen[false] < 100 {
		t.Errorf("valid differences: %v", seen)
	}
}

func TestNetPostsByHand(t *testing.T) {
	const most = 1000000000
	for _, x := range []struct {
		list []impl.Post
		want []impl.Post
		ok   bool
	}{
		{nil, nil, true},
		// Accounts cancel.
		{[]impl.Post{{From: 0, To: 1, Amount: 5}, {From: 1, To: 0, Amount: 5}}, nil, true},
		{[]impl.Post{{From: 1, To: 0, Amount: 5}, {From: 0, To: 1, Amount: 2}, {From: 0, To: 1, Amount: 3}}, nil, true},
		{[]impl.Post{{From: 1, To: 0, Amount: 5}, {From: 0, To: 1, Amount: 3}}, []impl.Post{{From: 1, To: 0, Amount: 2}}, true},
		{[]impl.Post{{From: 1, To: 0, Amount: 5}, {From: 0, To: 1, Amount: 8}}, []impl.Post{{From: 0, To: 1, Amount: 3}}, true},
		// A circle through three accounts does not cancel between any two.
		{[]impl.Post{{From: 2, To: 0, Amount: 5}, {From: 1, To: 2, Amount: 5}, {From: 0, To: 1, Amount: 5}}, []impl.Post{{From: 0, To: 1, Amount: 5}, {From: 2, To: 0, Amount: 5}, {From: 1, To: 2, Amount: 5}}, true},
		// The order is that of the accounts, whatever the direction and the order of the postings.
		{[]impl.Post{{From: 5, To: 4, Amount: 1}, {From: 3, To: 0, Amount: 2}, {From: 1, To: 2, Amount: 4}, {From: 5, To: 1, Amount: 6}, {From: 0, To: 1, Amount: 3}, {From: 0, To: 3, Amount: 9}},
			[]impl.Post{{From: 0, To: 1, Amount: 3}, {From: 0, To: 3, Amount: 7}, {From: 1, To: 2, Amount: 4}, {From: 5, To: 1, Amount: 6}, {From: 5, To: 4, Amount: 1}}, true},
		// The greatest difference, and one more than it, in both directions.
		{[]impl.Post{{From: 0, To: 1, Amount: most}}, []impl.Post{{From: 0, To: 1, Amount: most}}, true},
		{[]impl.Post{{From: 0, To: 1, Amount: most}, {From: 0, To: 1, Amount: 1}}, nil, false},
		{[]impl.Post{{From: 1, To: 0, Amount: most}, {From: 1, To: 0, Amount: 1}}, nil, false},
		{[]impl.Post{{From: 1, To: 0, Amount: most}, {From: 1, To: 0, Amount: 2}, {From: 0, To: 1, Amount: 2}}, []impl.Post{{From: 1, To: 0, Amount: most}}, true},
		{[]impl.Post{{From: 0, To: 1, Amount: most}, {From: 0, To: 2, Amount: most}, {From: 1, To: 2, Amount: most}}, []impl.Post{{From: 0, To: 1, Amount: most}, {From: 0, To: 2, Amount: most}, {From: 1, To: 2, Amount: most}}, true},
		// One difference that is too great spoils the others.
		{[]impl.Post{{From: 0, To: 1, Amount: 5}, {From: 4, To: 5, Amount: most}, {From: 4, To: 5, Amount: most}}, nil, false},
	} {
		if got, ok := impl.NetPosts(x.list); ok != x.ok || !slices.Equal(got, x.want) {
			t.Errorf("NetPosts(%v) = %v, %v, want %v, %v", x.list, got, ok, x.want, x.ok)
		}
	}
}

func TestP84PostingsCanBeReversed(t *testing.T) {
	for _, list := range goodPosts() {
		if back := exchanged(list); !impl.ValidPosts(back) {
			t.Fatalf("%v are not valid", back)
		}
	}
}

func TestP85NothingIsLost(t *testing.T) {
	for _, list := range goodPosts() {
		sum := 0
		for account := range 6 {
			sum += impl.BalanceOf(list, account)
		}
		if sum != 0 {
			t.Fatalf("all balances of %v are %d", list, sum)
		}
	}
}

func TestP86TradesMoveCash(t *testing.T) {
	for _, list := range goodTrades() {
		posts := impl.PostTrades(list)
		_, value := sumOfLots(impl.LotsOf(list))
		want := value - impl.GainOf(list)
		if len(posts) != len(list) || impl.BalanceOf(posts, impl.AccountBonds) != want || impl.BalanceOf(posts, impl.AccountCash) != -want {
			t.Fatalf("PostTrades(%v) = %v, lots of %d and a gain of %d", list, posts, value, impl.GainOf(list))
		}
	}
}

func TestP87NettingKeepsBalances(t *testing.T) {
	for _, list := range goodPosts() {
		net, ok := impl.NetPosts(list)
		if !ok {
			continue
		}
		for account := range 6 {
			if got, want := impl.BalanceOf(net, account), impl.BalanceOf(list, account); got != want {
				t.Fatalf("BalanceOf(%v, %d) = %d, of %v %d", net, account, got, list, want)
			}
		}
		pairs := map[[2]int]bool{}
		for _, x := range net {
			pair := [2]int{min(x.From, x.To), max(x.From, x.To)}
			if pairs[pair] {
				t.Fatalf("NetPosts(%v) = %v", list, net)
			}
			pairs[pair] = true
		}
		if again, ok := impl.NetPosts(net); !ok || !slices.Equal(again, net) {
			t.Fatalf("NetPosts(%v) = %v, %v", net, again, ok)
		}
	}
}

func TestP151ReversedPostingsReverseBalances(t *testing.T) {
	for _, list := range goodPosts() {
		back := exchanged(list)
		for account := range 6 {
			if got, want := impl.BalanceOf(back, account), -impl.BalanceOf(list, account); got != want {
				t.Fatalf("BalanceOf(%v, %d) = %d, want %d", back, account, got, want)
			}
		}
	}
}

func TestP162InAllLedgersNothingIsLost(t *testing.T) {
	r := rand.New(rand.NewPCG(16, 162))
	seen := map[bool]int{}
	for range 10000 {
		list := make([]impl.Post, r.IntN(42))
		for k := range list {
			list[k] = impl.Post{From: r.IntN(6), To: r.IntN(6), Amount: 1 + r.IntN([]int{5, 1000, impl.MaxAmount}[r.IntN(3)])}
			if list[k].From == list[k].To && r.IntN(200) > 0 {
				list[k].To = (list[k].From + 1) % 6
			}
		}
		sum, valid := 0, impl.ValidPosts(list)
		for account := range 6 {
			want := 0
			if valid {
				want = plainBalance(list, account)
			}
			balance := impl.BalanceOf(list, account)
			if balance != want {
				t.Fatalf("BalanceOf(%v, %d) = %d, want %d", list, account, balance, want)
			}
			sum += balance
		}
		if sum != 0 {
			t.Fatalf("all balances of %v are %d", list, sum)
		}
		seen[valid]++
	}
	if seen[true] < 5000 || seen[false] < 300 {
		t.Errorf("valid ledgers: %v", seen)
	}
}

func TestLedgersStay(t *testing.T) {
	list := []impl.Post{{From: 0, To: 1, Amount: 5}, {From: 3, To: 2, Amount: 7}, {From: 4, To: 5, Amount: 1}}
	trades := []impl.Trade{{Day: 1, Many: 10, Price: 100}, {Day: 2, Many: -4, Price: 110}}
	wantList, wantTrades := slices.Clone(list), slices.Clone(trades)
	impl.ValidPosts(list[:2])
	impl.BalanceOf(list[:2], 1)
	first, _ := impl.NetPosts(list[:2])
	second, _ := impl.NetPosts(list[:2])
	first[0] = impl.Post{From: 4, To: 1, Amount: 99}
	_ = append(first, first[0])
	posts, again := impl.PostTrades(trades[:1]), impl.PostTrades(trades[:1])
	posts[0] = first[0]
	_ = append(posts, first[0])
	if !slices.Equal(second, []impl.Post{{From: 0, To: 1, Amount: 5}, {From: 3, To: 2, Amount: 7}}) || !slices.Equal(again, []impl.Post{{From: 0, To: 1, Amount: 1000}}) {
		t.Errorf("results of equal calls share memory: %v, %v", second, again)
	}
	if !slices.Equal(list, wantList) || !slices.Equal(trades, wantTrades) {
		t.Errorf("functions of ledgers leave %v of %v, %v of %v", list, wantList, trades, wantTrades)
	}
}
