package tests

import (
	"math/big"
	"math/rand/v2"
	"slices"
	"testing"

	"loop.example/bonddesk/impl"
)

// otherCaps are numbers that are no caps.
var otherCaps = append([]int{-1, -250, 1001, 1250, 100000}, extremes...)

// goodBooks returns valid positions, up to 8 of them, sold ones among them.
func goodBooks() [][]impl.Mark {
	marks := goodMarks()
	most := impl.Mark{Many: 9999, Clean: 50000, Accrued: 50000}
	least := impl.Mark{Many: -9999, Clean: 50000, Accrued: 50000}
	out := [][]impl.Mark{nil, {}, slices.Repeat([]impl.Mark{most}, 8), slices.Repeat([]impl.Mark{least}, 8), slices.Repeat([]impl.Mark{most, least}, 4), make([]impl.Mark, 8)}
	for i, m := range marks {
		out = append(out, []impl.Mark{m}, []impl.Mark{m, marks[(i*7+3)%len(marks)]})
	}
	r := rand.New(rand.NewPCG(24, 1))
	for size := 1; size <= 8; size++ {
		for i := range 200 {
			list := make([]impl.Mark, size)
			for k := range list {
				limit := []int{2, 20, 10000}[i%3]
				list[k] = impl.Mark{Many: r.IntN(2*limit-1) - limit + 1, Clean: r.IntN(50001), Accrued: r.IntN(300)}
			}
			out = append(out, list)
		}
	}
	return out
}

// boughtBooks returns valid positions, none of which has bonds that were sold.
func boughtBooks() [][]impl.Mark {
	var out [][]impl.Mark
	for _, list := range goodBooks() {
		bought := slices.Clone(list)
		for i := range bought {
			bought[i].Many *= sign(bought[i].Many)
		}
		out = append(out, bought)
	}
	return append(out, []impl.Mark{{Many: 5}, {Clean: 100}}, []impl.Mark{{Many: 1, Accrued: 1}, {Many: 9999, Clean: 50000, Accrued: 50000}})
}

// badBooks returns positions that are not valid, each by one of them, or by their number.
func badBooks() [][]impl.Mark {
	good := []impl.Mark{{Many: 10, Clean: 100, Accrued: 1}, {Many: 20, Clean: 9900}}
	out := [][]impl.Mark{slices.Repeat(good[:1], 9), make([]impl.Mark, 9), slices.Repeat(good, 50)}
	for _, bad := range badMarks() {
		out = append(out, []impl.Mark{bad})
		for k := range len(good) + 1 {
			out = append(out, slices.Insert(slices.Clone(good), k, bad))
		}
	}
	return out
}

// plainBookWorth is BookWorth of valid positions.
func plainBookWorth(list []impl.Mark) int {
	sum := 0
	for _, m := range list {
		sum += m.Many*m.Clean + m.Many*m.Accrued
	}
	return sum
}

// bookWorth returns BookWorth for valid positions.
func bookWorth(t *testing.T, list []impl.Mark) int {
	t.Helper()
	worth, ok := impl.BookWorth(list)
	if !ok {
		t.Fatalf("BookWorth(%v) is refused", list)
	}
	return worth
}

// randomWeights returns weights that add up to 1000, some of them 0, with small and great ones.
func randomWeights(r *rand.Rand, size int) []int {
	list := make([]int, size)
	left := 1000
	for k := range size - 1 {
		list[k] = r.IntN(min(left, []int{3, 50, 400, 1000}[r.IntN(4)]) + 1)
		left -= list[k]
	}
	list[size-1] = left
	r.Shuffle(size, func(i int, k int) { list[i], list[k] = list[k], list[i] })
	return list
}

// goodThousandths returns weights that add up to 1000, with all combinations of some parts and random ones.
func goodThousandths() [][]int {
	out := [][]int{{1000}, {0, 1000}, {1000, 0, 0, 0, 0, 0, 0, 0}, {125, 125, 125, 125, 125, 125, 125, 125}, {0, 0, 500, 0, 500, 0}, {333, 333, 334}, {999, 1}, {1, 998, 1}}
	for a := 0; a <= 1000; a += 50 {
		out = append(out, []int{a, 1000 - a})
		for b := 0; a+b <= 1000; b += 50 {
			out = append(out, []int{a, b, 1000 - a - b})
			for c := 0; a+b+c <= 1000; c += 100 {
				out = append(out, []int{a, b, c, 1000 - a - b - c})
			}
		}
	}
	r := rand.New(rand.NewPCG(24, 2))
	for size := 2; size <= 8; size++ {
		for range 150 {
			out = append(out, randomWeights(r, size))
		}
	}
	return out
}

// badThousandths returns weights that are not valid, each by one of them, by their sum, or by their number.
func badThousandths() [][]int {
	out := [][]int{nil, {}, {0}, {999}, {1001}, {999, 0}, {500, 501}, {500, 499}, {0, 0, 0}, {1000, 1}, {1000, 1000}, {1001, -1}, {-1, 1001}, {600, 500, -100}, {-1000, 1000, 1000}, {333, 333, 333},
		{200, 100, 100, 100, 100, 100, 100, 100, 100}, make([]int, 8), make([]int, 9), slices.Repeat([]int{10}, 100)}
	for _, n := range extremes {
		out = append(out, []int{n}, []int{n, 1000}, []int{1000, n}, []int{n, -n, 1000}, []int{n, 1000 - n}, []int{500, n, 500})
	}
	return out
}

// eachCapped calls a function with weights and all or some caps with which no others fail.
func eachCapped(f func(list []int, limit int)) {
	for i, list := range goodThousandths() {
		least := (999 + len(list)) / len(list)
		for limit := least; limit <= 1000; limit++ {
			if limit < least+3 || limit == 999 || limit == 1000 || limit%50 == 0 || (limit+i)%37 == 0 || slices.Contains(list, limit) || slices.Contains(list, limit+1) {
				f(list, limit)
			}
		}
	}
}

// plainCapped is CapWeights of valid arguments: in each round the weights that never were above the cap share what the
// others have had above it, in a list of their own.
func plainCapped(list []int, limit int) []int {
	weights := slices.Clone(list)
	var full []int
	for {
		above := 0
		for i, w := range weights {
			if w > limit {
				above += w - limit
				weights[i] = limit
				full = append(full, i)
			}
		}
		if above == 0 {
			return weights
		}
		var open, parts []int
		for i, w := range weights {
			if !slices.Contains(full, i) {
				open = append(open, i)
				parts = append(parts, w)
			}
		}
		if plainTotal(parts) == 0 {
			parts = slices.Repeat([]int{1}, len(parts))
		}
		for k, share := range plainShares(above, parts) {
			weights[open[k]] += share
		}
	}
}

func TestInvalidBooks(t *testing.T) {
	for _, list := range badBooks() {
		if got, ok := impl.BookWorth(list); ok || got != 0 {
			t.Errorf("BookWorth(%v) = %d, %v", list, got, ok)
		}
		if got := impl.WeightsOf(list); got != nil {
			t.Errorf("WeightsOf(%v) = %v", list, got)
		}
	}
}

func TestBooksByHand(t *testing.T) {
	for _, x := range []struct {
		list    []impl.Mark
		worth   int
		weights []int
	}{
		{nil, 0, []int{}},
		{[]impl.Mark{{Many: 10, Clean: 100}, {Many: 20, Clean: 100}}, 3000, []int{333, 666}},
		{[]impl.Mark{{Many: 10, Clean: 99, Accrued: 1}, {Many: 20, Clean: 0, Accrued: 100}}, 3000, []int{333, 666}},
		{[]impl.Mark{{Many: 1, Clean: 7}}, 7, []int{1000}},
		{[]impl.Mark{{Many: 1, Clean: 5}, {Many: 0, Clean: 5}, {Many: 5}}, 5, []int{1000, 0, 0}},
		{[]impl.Mark{{Many: 1, Clean: 999}, {Many: 1, Clean: 1}}, 1000, []int{999, 1}},
		{[]impl.Mark{{Many: 1, Clean: 1000}, {Many: 1, Clean: 1}}, 1001, []int{999, 0}},
		// Books that are worth nothing.
		{[]impl.Mark{{}}, 0, []int{0}}, {[]impl.Mark{{Many: 9}, {Clean: 9}, {Accrued: 9}}, 0, []int{0, 0, 0}},
		// Sold bonds have no weights, even if the sum is positive.
		{[]impl.Mark{{Many: -1}}, 0, nil}, {[]impl.Mark{{Many: 10, Clean: 100}, {Many: -1, Clean: 100}}, 900, nil}, {[]impl.Mark{{Many: 1, Clean: 5}, {Many: -1, Clean: 5}}, 0, nil},
		{[]impl.Mark{{Many: -10, Clean: 100, Accrued: 5}}, -1050, nil},
		// The limits.
		{slices.Repeat([]impl.Mark{{Many: 9999, Clean: 50000, Accrued: 50000}}, 8), 7999200000, slices.Repeat([]int{125}, 8)},
		{slices.Repeat([]impl.Mark{{Many: -9999, Clean: 50000, Accrued: 50000}}, 8), -7999200000, nil},
	} {
		if got, ok := impl.BookWorth(x.list); !ok || got != x.worth {
			t.Errorf("BookWorth(%v) = %d, %v, want %d", x.list, got, ok, x.worth)
		}
		if got := impl.WeightsOf(x.list); !slices.Equal(got, x.weights) {
			t.Errorf("WeightsOf(%v) = %v, want %v", x.list, got, x.weights)
		}
	}
}

func TestBooksAreExact(t *testing.T) {
	for _, list := range goodBooks() {
		if got, want := bookWorth(t, list), plainBookWorth(list); got != want {
			t.Fatalf("BookWorth(%v) = %d, want %d", list, got, want)
		}
		sold := slices.ContainsFunc(list, func(m impl.Mark) bool { return m.Many < 0 })
		if got := impl.WeightsOf(list); sold && got != nil || !sold && len(got) != len(list) {
			t.Fatalf("WeightsOf(%v) = %v", list, got)
		}
	}
	for _, list := range boughtBooks() {
		want := make([]int, len(list))
		if total := plainBookWorth(list); total > 0 {
			for i := range list {
				want[i] = roundedDown(big.NewRat(int64(1000*plainBookWorth(list[i:i+1])), int64(total)))
			}
		}
		if got := impl.WeightsOf(list); !slices.Equal(got, want) {
			t.Fatalf("WeightsOf(%v) = %v, want %v", list, got, want)
		}
	}
}

func TestCapsByHand(t *testing.T) {
	for _, x := range []struct {
		name  string
		list  []int
		limit int
		want  []int
	}{
		{"a cap that nobody needs", []int{700, 200, 100}, 700, []int{700, 200, 100}},
		{"the greatest cap", []int{0, 1000}, 1000, []int{0, 1000}},
		{"one above", []int{700, 200, 100}, 699, []int{699, 201, 100}},
		{"two above at once", []int{400, 450, 100, 50}, 350, []int{350, 350, 200, 100}},
		{"pushed above the cap", []int{700, 200, 100}, 400, []int{400, 400, 200}},
		{"pushed above the cap at the front", []int{100, 200, 700}, 400, []int{200, 400, 400}},
		// 600 are divided into 360, 180 and 60, and then 120 into 90 and 30.
		{"three rounds, until one weight is the cap", []int{900, 60, 30, 10}, 300, []int{300, 300, 300, 100}},
		// 580 are divided into 421, 101, 46 and 12, then 260 into 165, 75 and 20, then 22 into 17 and 5.
		{"a push that pushes others", []int{0, 850, 109, 26, 12, 3}, 270, []int{0, 270, 270, 270, 150, 40}},
		{"all others are 0", []int{1000, 0}, 500, []int{500, 500}},
		{"all others are 0, shared with rests", []int{0, 1000, 0, 0}, 300, []int{234, 300, 233, 233}},
		{"some others are 0 and stay so", []int{900, 100, 0}, 500, []int{500, 500, 0}},
		{"others that are 0 get what the last one cannot take", []int{900, 100, 0, 0}, 400, []int{400, 400, 100, 100}},
		{"a weight that is the cap takes its share at first", []int{600, 400, 0}, 400, []int{400, 400, 200}},
		// 420 are divided into 40, 39 and 341, and then 341 into 172 and 169.
		{"a weight that is the cap is pushed above it", []int{0, 30, 30, 260, 680}, 260, []int{0, 242, 238, 260, 260}},
		{"the least cap", []int{997, 1, 1, 1}, 250, []int{250, 250, 250, 250}},
		{"the least cap for three", []int{1000, 0, 0}, 334, []int{334, 333, 333}},
		{"less than the least cap for three", []int{334, 333, 333}, 333, nil},
		{"less than the least cap for two", []int{1000, 0}, 499, nil},
		{"a single weight", []int{1000}, 1000, []int{1000}},
		{"a single weight above", []int{1000}, 999, nil},
		{"no cap", []int{1000, 0}, 0, nil},
		{"the least cap for eight", []int{1000, 0, 0, 0, 0, 0, 0, 0}, 125, slices.Repeat([]int{125}, 8)},
		{"less than the least cap for eight", slices.Repeat([]int{125}, 8), 124, nil},
	} {
		if got := impl.CapWeights(x.list, x.limit); !slices.Equal(got, x.want) {
			t.Errorf("%s: CapWeights(%v, %d) = %v, want %v", x.name, x.list, x.limit, got, x.want)
		}
	}
}

func TestCapsAreExact(t *testing.T) {
	eachCapped(func(list []int, limit int) {
		if got, want := impl.CapWeights(list, limit), plainCapped(list, limit); !slices.Equal(got, want) {
			t.Fatalf("CapWeights(%v, %d) = %v, want %v", list, limit, got, want)
		}
	})
}

func TestCapsOfInvalidArguments(t *testing.T) {
	for _, list := range badThousandths() {
		for _, limit := range append([]int{0, 1, 125, 250, 500, 999, 1000}, otherCaps...) {
			if got := impl.CapWeights(list, limit); got != nil {
				t.Errorf("CapWeights(%v, %d) = %v", list, limit, got)
			}
		}
	}
	for _, list := range goodThousandths() {
		for _, limit := range append([]int{0, 1, 999 / len(list)}, otherCaps...) {
			if got := impl.CapWeights(list, limit); got != nil {
				t.Errorf("CapWeights(%v, %d) = %v", list, limit, got)
			}
		}
	}
}

func TestP116BooksAreSums(t *testing.T) {
	for _, list := range goodBooks() {
		for k := range len(list) + 1 {
			if got, want := bookWorth(t, list), bookWorth(t, list[:k])+bookWorth(t, list[k:]); got != want {
				t.Fatalf("BookWorth(%v) = %d, of both parts at %d %d", list, got, k, want)
			}
		}
		if len(list) == 1 && bookWorth(t, list) != worthOf(t, list[0]) {
			t.Fatalf("BookWorth(%v) = %d", list, bookWorth(t, list))
		}
	}
}

func TestP117WeightsAreThousandths(t *testing.T) {
	for _, list := range boughtBooks() {
		got := impl.WeightsOf(list)
		if len(got) != len(list) {
			t.Fatalf("WeightsOf(%v) = %v", list, got)
		}
		sum := plainTotal(got)
		if bookWorth(t, list) == 0 {
			if sum != 0 {
				t.Fatalf("WeightsOf(%v) = %v, of nothing", list, got)
			}
			continue
		}
		if sum > 1000 || 1000-sum >= len(list) {
			t.Fatalf("WeightsOf(%v) = %v, together %d", list, got, sum)
		}
	}
}

func TestP118CapsAreKept(t *testing.T) {
	eachCapped(func(list []int, limit int) {
		got := impl.CapWeights(list, limit)
		if len(got) != len(list) || slices.Max(got) > limit || slices.Min(got) < 0 || plainTotal(got) != 1000 {
			t.Fatalf("CapWeights(%v, %d) = %v", list, limit, got)
		}
		if slices.Max(list) <= limit && !slices.Equal(got, list) {
			t.Fatalf("CapWeights(%v, %d) = %v, though no cap is needed", list, limit, got)
		}
	})
}

func TestP155EqualPositionsWeighTheSame(t *testing.T) {
	for _, m := range goodMarks() {
		for size := 1; size <= 8 && m.Many >= 0; size++ {
			weight := 1000 / size
			if worthOf(t, m) == 0 {
				weight = 0
			}
			list := slices.Repeat([]impl.Mark{m}, size)
			if got := impl.WeightsOf(list); !slices.Equal(got, slices.Repeat([]int{weight}, size)) {
				t.Fatalf("WeightsOf(%v) = %v", list, got)
			}
		}
	}
}

func TestP156WithTheLeastCapAllWeightsAreEqual(t *testing.T) {
	seen := 0
	for _, list := range goodThousandths() {
		if len(list) != 4 {
			continue
		}
		seen++
		if got := impl.CapWeights(list, 250); !slices.Equal(got, []int{250, 250, 250, 250}) {
			t.Fatalf("CapWeights(%v, 250) = %v", list, got)
		}
	}
	if seen < 1000 {
		t.Errorf("only %d times four weights", seen)
	}
}

func TestBooksStay(t *testing.T) {
	marks := []impl.Mark{{Many: 10, Clean: 100}, {Many: 20, Clean: 100}, {Many: 7, Clean: 9}}
	weights := []int{700, 200, 100, 5}
	wantMarks, wantWeights := slices.Clone(marks), slices.Clone(weights)
	for _, f := range []func() []int{
		func() []int { return impl.WeightsOf(marks[:2]) },
		func() []int { return impl.CapWeights(weights[:3], 400) },
		func() []int { return impl.CapWeights(weights[:3], 1000) },
	} {
		first, second := f(), f()
		kept := slices.Clone(second)
		first[0] = 99
		_ = append(first, 98)
		if !slices.Equal(second, kept) || !slices.Equal(f(), kept) {
			t.Errorf("results of equal calls share memory: %v, %v", second, kept)
		}
	}
	impl.BookWorth(marks[:2])
	if !slices.Equal(marks, wantMarks) || !slices.Equal(weights, wantWeights) {
		t.Errorf("functions of books leave %v and %v", marks, weights)
	}
}
