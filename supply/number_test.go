package supply_test

import (
	"math/rand"
	"slices"
	"testing"

	"careen/api"
	"careen/supply"
)

// least is the least t for which a list of each kind with the sum t is right.
func (g graph) least(is func(list []int) bool) int {
	for sum := 0; ; sum++ {
		if !slices.ContainsFunc(sums(g.n, sum), func(list []int) bool { return !is(list) }) {
			return sum
		}
	}
}

// numbers are Number and Poor, which must fit together.
func (g graph) numbers(t *testing.T, goal int) (int, []int) {
	t.Helper()
	number, e := supply.Number(g.n, g.edges, goal)
	poor, f := supply.Poor(g.n, g.edges, goal)
	if e != api.OK || f != api.OK || len(poor) != g.n || total(poor) != number-1 || slices.Min(poor) < 0 {
		t.Errorf("%v, %d: Number %d, %d, Poor %v, %d", g, goal, number, e, poor, f)
	}
	return number, poor
}

// P8.3: Number by its definition for all graphs of up to four places, and Poor.
func TestNumber(t *testing.T) {
	for _, g := range upTo(4) {
		for goal := range g.n {
			number, poor := g.numbers(t, goal)
			if want := g.least(func(list []int) bool { return g.mostAt(list)[goal] > 0 }); number != want {
				t.Errorf("Number(%v, %d) = %d, not %d", g, goal, number, want)
			}
			if g.mostAt(poor)[goal] > 0 {
				t.Errorf("Poor(%v, %d) = %v, which is enough", g, goal, poor)
			}
		}
	}
}

// P8.3, P8.7: Number of greater graphs by Plan: all supplies with that sum are enough, and Poor is not; it is at least n and 2 to the power of the greatest distance.
func TestGreaterNumbers(t *testing.T) {
	r := rand.New(rand.NewSource(837))
	for _, g := range append(someGraphs(r, 5, 40), someGraphs(r, 6, 60)...) {
		goal := r.Intn(g.n)
		number, poor := g.numbers(t, goal)
		if _, is, e := supply.Plan(g.n, g.edges, poor, goal); is || e != api.OK {
			t.Errorf("Poor(%v, %d) = %v, which is enough", g, goal, poor)
		}
		if number < g.n || number < 1<<slices.Max(g.far(goal)) {
			t.Errorf("Number(%v, %d) = %d", g, goal, number)
		}
		lists := sums(g.n, number)
		if len(lists) > 3000 {
			lists = nil
			for range 500 {
				lists = append(lists, someSupplies(r, g.n, number))
			}
		}
		for _, supplies := range lists {
			if _, is, e := supply.Plan(g.n, g.edges, supplies, goal); !is || e != api.OK {
				t.Errorf("Number(%v, %d) = %d, but %v is not enough", g, goal, number, supplies)
			}
		}
	}
}

// P8.6: Number of a graph in which any two places have an edge, and of ways.
func TestKnownNumbers(t *testing.T) {
	for n := 1; n <= 6; n++ {
		for goal := range n {
			if number, _ := (graph{n, all(n)}).numbers(t, goal); number != n {
				t.Errorf("all edges of %d, %d: %d", n, goal, number)
			}
			// Both sides of the goal are parts of a way.
			number, _ := way(n).numbers(t, goal)
			if want := 1<<goal + 1<<(n-1-goal) - 1; number != want {
				t.Errorf("a way of %d, %d: %d, not %d", n, goal, number, want)
			}
		}
		for _, goal := range []int{0, n - 1} {
			if number, _ := way(n).numbers(t, goal); number != 1<<(n-1) {
				t.Errorf("the end of a way of %d: %d", n, number)
			}
		}
	}
	// Rings: 2^k for 2 k places, and 2 [2^(k + 1) / 3] + 1 for 2 k + 1.
	for n, want := range map[int]int{3: 3, 4: 4, 5: 5, 6: 8} {
		if number, _ := ring(n).numbers(t, n-1); number != want {
			t.Errorf("a ring of %d: %d", n, number)
		}
	}
	if number, poor := (graph{n: 1}).numbers(t, 0); number != 1 || !slices.Equal(poor, []int{0}) {
		t.Errorf("one place: %d, %v", number, poor)
	}
	if _, poor := way(6).numbers(t, 0); !slices.Equal(poor, []int{0, 0, 0, 0, 0, 31}) {
		t.Errorf("a way of six: %v", poor)
	}
}

// P8.5: CoverNumber by its definition for all graphs of up to four places.
func TestCoverNumber(t *testing.T) {
	known := map[int]int{}
	for _, g := range upTo(4) {
		got, e := supply.CoverNumber(g.n, g.edges)
		if want := g.least(g.covers); got != want || e != api.OK {
			t.Errorf("CoverNumber(%v) = %d, %d, not %d", g, got, e, want)
		}
		known[got]++
	}
	for _, number := range []int{1, 3, 5, 7, 9, 11, 15} {
		if known[number] == 0 {
			t.Errorf("no graph has the cover number %d", number)
		}
	}
}

// P8.8: CoverNumber is the greatest of the sums of powers of the distances, and by Covers that many are needed at one place, and so many anywhere do.
func TestSjostrand(t *testing.T) {
	r := rand.New(rand.NewSource(88))
	list := append(upTo(4), graphs(5, 6)...)
	for _, g := range append(list, someGraphs(r, 6, 100)...) {
		want, worst := 0, 0
		for place := range g.n {
			sum := 0
			for _, far := range g.far(place) {
				sum += 1 << far
			}
			if sum > want {
				want, worst = sum, place
			}
		}
		got, e := supply.CoverNumber(g.n, g.edges)
		if got != want || e != api.OK {
			t.Errorf("CoverNumber(%v) = %d, %d, not %d", g, got, e, want)
		}
		if got > most {
			continue
		}
		heap := make([]int, g.n)
		heap[worst] = got - 1
		if is, e := supply.Covers(g.n, g.edges, heap); is || e != api.OK {
			t.Errorf("%v covers %v", heap, g)
		}
		for range 5 {
			supplies := someSupplies(r, g.n, got)
			if is, e := supply.Covers(g.n, g.edges, supplies); !is || e != api.OK {
				t.Errorf("%v does not cover %v", supplies, g)
			}
		}
	}
	if number, e := supply.CoverNumber(6, way(6).edges); number != 63 || e != api.OK {
		t.Errorf("a way of six: %d, %d", number, e)
	}
}
