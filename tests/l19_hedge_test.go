package tests

import (
	"math/rand/v2"
	"slices"
	"testing"

	"loop.example/bonddesk/impl"
)

// otherRisks are numbers that are no risks.
var otherRisks = append([]int{impl.MaxAmount + 1, -impl.MaxAmount - 1, 2 * impl.MaxAmount}, extremes...)

// hedge is a risk and the tools that make it small.
type hedge struct {
	risk  int
	tools []int
}

// toolLists are valid risks of tools, some of which are equal or multiples of each other.
func toolLists() [][]int {
	return [][]int{
		{1}, {2}, {5}, {7}, {30}, {9999}, {1, 1}, {1, 2}, {2, 1}, {3, 3}, {30, 7}, {7, 30}, {10, 15}, {9999, 9998}, {1, 9999},
		{1, 1, 1}, {1, 2, 3}, {3, 2, 1}, {2, 4, 6}, {5, 5, 10}, {13, 1, 169}, {30, 7, 4}, {4, 7, 30}, {100, 99, 98}, {9999, 9999, 9999}, {1, 5000, 9999},
	}
}

// goodHedges returns valid hedges of small, large and the greatest risks.
func goodHedges() []hedge {
	var out []hedge
	r := rand.New(rand.NewPCG(19, 1))
	for _, tools := range toolLists() {
		reach := 6 * plainTotal(tools)
		for _, risk := range []int{0, 1, 2, 3, 5, 7, 8, 15, 16, 35, 100, tools[0], tools[0] / 2, 4*tools[0] + 1, reach - 1, reach, reach + 1, impl.MaxAmount - 1, impl.MaxAmount} {
			out = append(out, hedge{risk, tools}, hedge{-risk, tools})
		}
		for range 12 {
			out = append(out, hedge{r.IntN(2*reach+3) - reach - 1, tools})
		}
	}
	for range 150 {
		tools := make([]int, 1+r.IntN(3))
		for i := range tools {
			tools[i] = 1 + r.IntN([]int{4, 50, 9999}[r.IntN(3)])
		}
		reach := 6 * plainTotal(tools)
		out = append(out, hedge{r.IntN(2*reach+1) - reach, tools})
	}
	return out
}

// badTools returns tools that are not valid, each by one of them, or by their number.
func badTools() [][]int {
	lists := [][]int{nil, {}, {1, 2, 3, 4}, slices.Repeat([]int{5}, 100)}
	for _, n := range append([]int{0, -1, -30, impl.MaxMany + 1, 1000000}, extremes...) {
		lists = append(lists, []int{n}, []int{n, 5}, []int{5, n}, []int{n, 5, 7}, []int{5, n, 7}, []int{5, 7, n})
	}
	return lists
}

// allCounts returns all counts of a number of tools in lexicographic order.
func allCounts(size int) [][]int {
	lists := [][]int{{}}
	for range size {
		var longer [][]int
		for _, list := range lists {
			for count := -6; count <= 6; count++ {
				longer = append(longer, append(slices.Clone(list), count))
			}
		}
		lists = longer
	}
	return lists
}

// plainError is HedgeError of valid arguments.
func plainError(h hedge, counts []int) int {
	sum := 0
	for i, n := range counts {
		sum += n * h.tools[i]
	}
	return apart(h.risk, sum)
}

// plainSize returns the sum of the absolute values of numbers.
func plainSize(list []int) int {
	sum := 0
	for _, n := range list {
		sum += apart(n, 0)
	}
	return sum
}

// plainBest is BestHedge of a valid hedge, the first one of all counts in their order.
func plainBest(h hedge) []int {
	return slices.MinFunc(allCounts(len(h.tools)), func(a []int, b []int) int {
		if x, y := plainError(h, a), plainError(h, b); x != y {
			return x - y
		}
		if x, y := plainSize(a), plainSize(b); x != y {
			return x - y
		}
		return slices.Compare(a, b)
	})
}

func TestHedgeLimits(t *testing.T) {
	if got := [2]int{impl.MaxTools, impl.MaxCount}; got != [2]int{3, 6} {
		t.Errorf("limits = %v", got)
	}
	tools := []int{9999, 9999, 9999}
	if got := impl.HedgeError(1000000000, tools, []int{-6, -6, -6}); got != 1000179982 {
		t.Errorf("the greatest HedgeError = %d", got)
	}
	if got := impl.HedgeError(-1000000000, tools, []int{6, 6, 6}); got != 1000179982 {
		t.Errorf("the greatest HedgeError of a negative risk = %d", got)
	}
	if got := impl.BestHedge(1000000000, tools); !slices.Equal(got, []int{6, 6, 6}) {
		t.Errorf("BestHedge of the greatest risk = %v", got)
	}
	if got := impl.BestHedge(-1000000000, tools); !slices.Equal(got, []int{-6, -6, -6}) {
		t.Errorf("BestHedge of the least risk = %v", got)
	}
}

func TestInvalidHedges(t *testing.T) {
	for _, tools := range badTools() {
		for _, risk := range []int{0, 100, -100} {
			for _, counts := range [][]int{nil, make([]int, len(tools)), {0}, {1, 1, 1}} {
				if got := impl.HedgeError(risk, tools, counts); got != -1 {
					t.Errorf("HedgeError(%d, %v, %v) = %d", risk, tools, counts, got)
				}
			}
			if got := impl.BestHedge(risk, tools); got != nil {
				t.Errorf("BestHedge(%d, %v) = %v", risk, tools, got)
			}
		}
	}
	for _, risk := range otherRisks {
		for _, tools := range toolLists() {
			if got := impl.HedgeError(risk, tools, make([]int, len(tools))); got != -1 {
				t.Errorf("HedgeError(%d, %v, zeros) = %d", risk, tools, got)
			}
			if got := impl.BestHedge(risk, tools); got != nil {
				t.Errorf("BestHedge(%d, %v) = %v", risk, tools, got)
			}
		}
	}
}

func TestInvalidCounts(t *testing.T) {
	for _, tools := range toolLists() {
		for size := range 6 {
			if got := impl.HedgeError(100, tools, make([]int, size)); (got == -1) != (size != len(tools)) {
				t.Errorf("HedgeError(100, %v, %d zeros) = %d", tools, size, got)
			}
		}
		for k := range tools {
			for _, n := range append([]int{-7, 7, 100, -100}, extremes...) {
				counts := make([]int, len(tools))
				counts[k] = n
				if got := impl.HedgeError(100, tools, counts); got != -1 {
					t.Errorf("HedgeError(100, %v, %v) = %d", tools, counts, got)
				}
			}
		}
	}
}

func TestHedgeErrorIsExact(t *testing.T) {
	for i, h := range goodHedges() {
		for k, counts := range allCounts(len(h.tools)) {
			if len(h.tools) == 3 && (i+k)%5 > 0 {
				continue
			}
			if got, want := impl.HedgeError(h.risk, h.tools, counts), plainError(h, counts); got != want {
				t.Fatalf("HedgeError(%d, %v, %v) = %d, want %d", h.risk, h.tools, counts, got, want)
			}
		}
	}
}

func TestBestHedgeIsExact(t *testing.T) {
	for _, h := range goodHedges() {
		if got, want := impl.BestHedge(h.risk, h.tools), plainBest(h); !slices.Equal(got, want) {
			t.Fatalf("BestHedge(%d, %v) = %v, want %v", h.risk, h.tools, got, want)
		}
	}
	for _, tools := range [][]int{{1}, {2}, {5}, {30}, {3, 3}, {2, 5}, {30, 7}} {
		for risk := -120; risk <= 120; risk++ {
			h := hedge{risk, tools}
			if got, want := impl.BestHedge(risk, tools), plainBest(h); !slices.Equal(got, want) {
				t.Fatalf("BestHedge(%d, %v) = %v, want %v", risk, tools, got, want)
			}
		}
	}
}

func TestBestHedgeByHand(t *testing.T) {
	for _, x := range []struct {
		risk        int
		tools, want []int
	}{
		{100, []int{30, 7}, []int{4, -3}}, {0, []int{5}, []int{0}}, {0, []int{1, 1, 1}, []int{0, 0, 0}},
		{30, []int{5}, []int{6}}, {31, []int{5}, []int{6}}, {-1000, []int{5}, []int{-6}},
		// With the same error fewer tools are better: 5 is as far from 0 as from 10, and so is -5.
		{5, []int{10}, []int{0}}, {-5, []int{10}, []int{0}}, {15, []int{10}, []int{1}}, {-15, []int{10}, []int{-1}},
		// 6 is 6 of the first tool, and 1 of the second one.
		{6, []int{1, 6}, []int{0, 1}}, {6, []int{6, 1}, []int{1, 0}},
		// With the same error and the same sum the lexicographically smallest counts are the best.
		{1, []int{1, 1}, []int{0, 1}}, {-1, []int{1, 1}, []int{-1, 0}}, {2, []int{1, 1, 1}, []int{0, 0, 2}}, {-2, []int{1, 1, 1}, []int{-2, 0, 0}},
		{8, []int{1, 1}, []int{2, 6}}, {-8, []int{1, 1}, []int{-6, -2}},
		{1, []int{2, 3}, []int{-1, 1}}, {-1, []int{2, 3}, []int{1, -1}}, {1, []int{3, 2}, []int{1, -1}}, {-1, []int{3, 2}, []int{-1, 1}},
	} {
		if got := impl.BestHedge(x.risk, x.tools); !slices.Equal(got, x.want) {
			t.Errorf("BestHedge(%d, %v) = %v, want %v", x.risk, x.tools, got, x.want)
		}
	}
}

func TestHedgeErrorByHand(t *testing.T) {
	for _, x := range []struct {
		risk          int
		tools, counts []int
		want          int
	}{
		{100, []int{30, 7}, []int{3, 1}, 3}, {100, []int{30, 7}, []int{4, -3}, 1}, {100, []int{30, 7}, []int{4, -2}, 6}, {-100, []int{30, 7}, []int{-3, -1}, 3},
		{-100, []int{30}, []int{6}, 280}, {0, []int{1, 2, 3}, []int{1, 1, -1}, 0}, {5, []int{9999}, []int{0}, 5}, {-5, []int{9999}, []int{0}, 5},
		{100, []int{30, 7}, []int{7, 0}, -1}, {100, []int{30, 7}, []int{0, -7}, -1}, {100, []int{30, 7}, []int{3}, -1}, {100, []int{30, 7}, []int{3, 1, 0}, -1},
	} {
		if got := impl.HedgeError(x.risk, x.tools, x.counts); got != x.want {
			t.Errorf("HedgeError(%d, %v, %v) = %d, want %d", x.risk, x.tools, x.counts, got, x.want)
		}
	}
}

func TestP97ErrorsAreWhatIsLeft(t *testing.T) {
	for i, h := range goodHedges() {
		if got := impl.HedgeError(h.risk, h.tools, make([]int, len(h.tools))); got != apart(h.risk, 0) {
			t.Fatalf("HedgeError(%d, %v) without tools = %d", h.risk, h.tools, got)
		}
		for j, counts := range allCounts(len(h.tools)) {
			if len(h.tools) == 3 && (i+j)%11 > 0 {
				continue
			}
			before := impl.HedgeError(h.risk, h.tools, counts)
			for k := range counts {
				more := slices.Clone(counts)
				more[k]++
				if got := impl.HedgeError(h.risk, h.tools, more); more[k] <= 6 && (got < 0 || apart(got, before) > h.tools[k]) {
					t.Fatalf("HedgeError(%d, %v, %v) = %d, of %v %d", h.risk, h.tools, more, got, counts, before)
				}
			}
		}
	}
}

func TestP98NoHedgeIsBetter(t *testing.T) {
	for _, h := range goodHedges() {
		best := impl.BestHedge(h.risk, h.tools)
		left := impl.HedgeError(h.risk, h.tools, best)
		if left < 0 || left > apart(h.risk, 0) {
			t.Fatalf("HedgeError(%d, %v, %v) = %d", h.risk, h.tools, best, left)
		}
		for _, counts := range allCounts(len(h.tools)) {
			if plainError(h, counts) < left {
				t.Fatalf("BestHedge(%d, %v) = %v, better %v", h.risk, h.tools, best, counts)
			}
		}
	}
}

func TestP99RisksCanBeTurnedAround(t *testing.T) {
	for _, h := range goodHedges() {
		left := impl.HedgeError(h.risk, h.tools, impl.BestHedge(h.risk, h.tools))
		back := impl.HedgeError(-h.risk, h.tools, impl.BestHedge(-h.risk, h.tools))
		if left != back || left < 0 {
			t.Fatalf("the best hedges of %d and %d with %v leave %d and %d", h.risk, -h.risk, h.tools, left, back)
		}
	}
}

func TestHedgesStay(t *testing.T) {
	tools, counts := []int{30, 7, 4}, []int{3, 1, 2}
	first, second := impl.BestHedge(100, tools[:2]), impl.BestHedge(100, tools[:2])
	first[0] = 99
	_ = append(first, 98)
	impl.HedgeError(100, tools[:2], counts[:2])
	if !slices.Equal(second, []int{4, -3}) || !slices.Equal(impl.BestHedge(100, tools[:2]), second) {
		t.Errorf("BestHedge twice: %v", second)
	}
	if !slices.Equal(tools, []int{30, 7, 4}) || !slices.Equal(counts, []int{3, 1, 2}) {
		t.Errorf("hedges leave %v and %v", tools, counts)
	}
}
