package order_test

import (
	"math"
	"math/rand"
	"slices"
	"testing"

	"careen/api"
	"careen/order"
)

// costOf is the greatest of the costs, each times the place of its hull.
func costOf(word, costs []int) int {
	greatest := 0
	for i, h := range word {
		greatest = max(greatest, costs[h]*(i+1))
	}
	return greatest
}

// expectCheapest checks that Cheapest returns a whole word with the cost that it names, the least one.
func expectCheapest(t *testing.T, o order.Order, costs []int, least int) {
	t.Helper()
	word, cost, e := order.Cheapest(o, costs)
	is, f := order.IsWord(o, word)
	if !is || len(word) != o.N || costOf(word, costs) != cost || cost != least || e != api.OK || f != api.OK {
		t.Fatalf("Cheapest(%v, %v) = %v, %d, %d, not %d", o, costs, word, cost, e, least)
	}
}

// P5.6: words that are the only right ones, and traps for greedy choices.
func TestCheapestExamples(t *testing.T) {
	chain, _ := order.ByPairs(3, list{{0, 1}, {1, 2}})
	for _, x := range []struct {
		o     order.Order
		costs []int
		least int
	}{
		{order.Order{N: 1, Ways: ways{nil}}, []int{7}, 7},
		{order.Order{N: 1, Ways: ways{nil}}, []int{0}, 0},
		{order.Order{N: 2, Ways: make(ways, 2)}, []int{5, 9}, 10},
		{chain, []int{9, 1, 5}, 15},
		{chain, []int{0, 0, 0}, 0},
		{either, []int{4, 3, 5}, 10},
		{free, []int{1, 2, 3, 4, 5, 6, 7, 8}, 20},
		{free, []int{1_000_000, 1_000_000, 1_000_000, 1_000_000, 1_000_000, 1_000_000, 1_000_000, 1_000_000}, 8_000_000},
		// Hull 1 waits for 0 or 3, hull 3 for 2: that 0, the cheapest end, goes last makes 1 wait longer.
		{order.Order{N: 4, Ways: ways{nil, {1, 8}, nil, {4}}}, []int{4, 10, 0, 5}, 20},
		// Hull 2, the costliest one, waits for 0, the cheapest one.
		{order.Order{N: 3, Ways: ways{nil, nil, {1}}}, []int{1, 9, 10}, 27},
	} {
		expectCheapest(t, x.o, x.costs, x.least)
	}
}

// P5.6: Cheapest against all whole words.
func TestCheapest(t *testing.T) {
	r := rand.New(rand.NewSource(56))
	for _, o := range sounds(append(examples(), either)) {
		words := slices.DeleteFunc(wordsOf(o), func(word []int) bool { return len(word) < o.N })
		for _, most := range []int{3, 50, 1_000_000} {
			costs := make([]int, o.N)
			for i := range costs {
				costs[i] = r.Intn(most + 1)
			}
			least := math.MaxInt
			for _, word := range words {
				least = min(least, costOf(word, costs))
			}
			expectCheapest(t, o, costs, least)
		}
	}
}

// P5.6: ErrNone if the order is not sound, whatever the costs; then ErrArg for costs that are none.
func TestWrongCosts(t *testing.T) {
	wrong := [][]int{nil, {}, {1}, {1, 2}, {1, 2, 3, 4}, {-1, 0, 0}, {0, -1, 0}, {0, 0, -1}, {1_000_001, 0, 0}, {0, 0, 1_000_001}, {0, math.MaxInt, 0}, {math.MinInt, 0, 0}, make([]int, 1000)}
	for _, costs := range wrong {
		if got := cheapest(either, costs); (got != outcome{true, api.ErrArg}) {
			t.Errorf("Cheapest of %v: %v", costs, got)
		}
	}
	for _, costs := range append(wrong, []int{1, 2, 3}) {
		if got := cheapest(ring, costs); (got != outcome{true, api.ErrNone}) {
			t.Errorf("Cheapest of %v: %v", costs, got)
		}
	}
	expectCheapest(t, either, []int{1_000_000, 0, 1_000_000}, 2_000_000)
}
