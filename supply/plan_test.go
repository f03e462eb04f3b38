package supply_test

import (
	"math/big"
	"math/rand"
	"slices"
	"testing"

	"careen/api"
	"careen/supply"
)

// leads tells by the definition whether a plan can be made and brings something to the goal.
func (g graph) leads(supplies []int, goal int, plan []move) bool {
	s := stateOf(supplies)
	for _, m := range plan {
		next, can := g.after(s, m)
		if !can {
			return false
		}
		s = next
	}
	return s[goal] > 0
}

// weigh is the weight of supplies for the goal.
func (g graph) weigh(supplies []int, goal int) *big.Rat {
	weight := new(big.Rat)
	for place, far := range g.far(goal) {
		weight.Add(weight, big.NewRat(int64(supplies[place]), 1<<far))
	}
	return weight
}

// checkPlans holds Plan, Most and Covers against all that can be reached.
func checkPlans(t *testing.T, g graph, supplies []int) {
	t.Helper()
	greatest := g.mostAt(supplies)
	for goal := range g.n {
		plan, is, e := supply.Plan(g.n, g.edges, supplies, goal)
		if is != (greatest[goal] > 0) || is != g.leads(supplies, goal, plan) || e != api.OK || !is && len(plan) > 0 {
			t.Errorf("Plan(%v, %v, %d) = %v, %t, %d", g, supplies, goal, plan, is, e)
		}
		if right, e := supply.IsPlan(g.n, g.edges, supplies, goal, plan); right != is || e != api.OK {
			t.Errorf("IsPlan(%v, %v, %d, %v) = %t, %d", g, supplies, goal, plan, right, e)
		}
		if got, e := supply.Most(g.n, g.edges, supplies, goal); got != greatest[goal] || e != api.OK {
			t.Errorf("Most(%v, %v, %d) = %d, %d, not %d", g, supplies, goal, got, e, greatest[goal])
		}
	}
	if is, e := supply.Covers(g.n, g.edges, supplies); is != g.covers(supplies) || e != api.OK {
		t.Errorf("Covers(%v, %v) = %t, %d", g, supplies, is, e)
	}
}

// P8.2, P8.5: Plan, Most and Covers of all supplies of few, for all graphs of up to four places.
func TestPlans(t *testing.T) {
	for _, g := range upTo(4) {
		for sum := range 9 {
			for _, supplies := range sums(g.n, sum) {
				checkPlans(t, g, supplies)
			}
		}
	}
}

// P8.2, P8.5: the same for random supplies of random graphs.
func TestMorePlans(t *testing.T) {
	r := rand.New(rand.NewSource(82))
	for _, x := range []struct{ n, graphs, most int }{{3, 8, 40}, {4, 40, 22}, {5, 100, 17}, {6, 150, 14}} {
		for _, g := range append(someGraphs(r, x.n, x.graphs), trees(4)...) {
			for range 4 {
				checkPlans(t, g, someSupplies(r, g.n, r.Intn(x.most+1)))
			}
		}
	}
}

// P8.2, P8.5: plans and covers near the limits, in ways and stars of six.
func TestLongPlans(t *testing.T) {
	w, s := way(6), star(6)
	for _, x := range []struct {
		g        graph
		supplies []int
		goal     int
		most     int
	}{
		{w, []int{0, 0, 0, 0, 0, 32}, 0, 1}, {w, []int{0, 0, 0, 0, 0, 31}, 0, 0}, {w, []int{0, 0, 0, 0, 0, 40}, 0, 1},
		{w, []int{0, 0, 0, 0, 40, 0}, 0, 2}, {w, []int{40, 0, 0, 0, 0, 0}, 3, 5}, {w, []int{0, 40, 0, 0, 0, 0}, 1, 40},
		{w, []int{0, 1, 1, 1, 1, 2}, 0, 1}, {w, []int{0, 1, 1, 1, 1, 1}, 0, 0}, {w, []int{0, 20, 0, 0, 0, 20}, 0, 10}, {w, []int{0, 21, 0, 0, 0, 19}, 0, 11},
		{s, []int{0, 0, 10, 10, 10, 10}, 1, 10}, {s, []int{0, 0, 3, 3, 3, 1}, 1, 1}, {s, []int{0, 0, 3, 1, 1, 1}, 1, 0}, {s, []int{0, 7, 9, 9, 9, 6}, 0, 18},
		{graph{6, all(6)}, []int{0, 8, 8, 8, 8, 8}, 0, 20}, {graph{6, all(6)}, []int{0, 1, 1, 1, 1, 1}, 0, 0}, {graph{6, all(6)}, []int{7, 7, 7, 7, 7, 5}, 0, 21}, {graph{6, all(6)}, []int{6, 6, 7, 7, 7, 7}, 0, 21}, {graph{6, all(6)}, []int{4, 4, 8, 8, 8, 8}, 0, 22},
	} {
		got, e := supply.Most(6, x.g.edges, x.supplies, x.goal)
		plan, is, f := supply.Plan(6, x.g.edges, x.supplies, x.goal)
		if got != x.most || is != (x.most > 0) || is != x.g.leads(x.supplies, x.goal, plan) || e != api.OK || f != api.OK {
			t.Errorf("%v, %d: %d, %v, %t", x.supplies, x.goal, got, plan, is)
		}
	}
	for _, x := range []struct {
		g        graph
		supplies []int
		is       bool
	}{
		{way(5), []int{31, 0, 0, 0, 0}, true}, {way(5), []int{30, 0, 0, 0, 0}, false}, {way(5), []int{0, 0, 13, 0, 0}, true}, {way(5), []int{0, 0, 12, 0, 0}, false},
		{w, []int{0, 0, 21, 0, 0, 0}, true}, {w, []int{0, 0, 20, 0, 0, 0}, false}, {w, []int{40, 0, 0, 0, 0, 0}, false}, {w, []int{1, 1, 1, 1, 1, 1}, true}, {w, []int{2, 2, 2, 2, 2, 0}, false}, {w, []int{3, 2, 2, 2, 2, 0}, true}, {w, []int{1, 1, 1, 1, 2, 0}, false}, {w, []int{1, 1, 1, 1, 3, 0}, true},
		{graph{5, []move{{0, 1}, {0, 4}, {2, 3}, {3, 4}}}, []int{0, 3, 0, 1, 5}, true}, {s, []int{0, 19, 0, 0, 0, 0}, true}, {s, []int{0, 18, 0, 0, 0, 0}, false}, {s, []int{11, 0, 0, 0, 0, 0}, true}, {s, []int{10, 0, 0, 0, 0, 0}, false},
	} {
		if is, e := supply.Covers(x.g.n, x.g.edges, x.supplies); is != x.is || e != api.OK {
			t.Errorf("Covers(%v, %v) = %t, %d", x.g, x.supplies, is, e)
		}
	}
}

// back undoes random moves that could have led to supplies, as many as there can be with a sum.
func (g graph) back(r *rand.Rand, s state, sum int) state {
	for now := total(s[:]); now < sum; now++ {
		var before []move
		for to := range g.n {
			for from := range g.n {
				if g.joins(from, to) && s[to] > 0 {
					before = append(before, move{from, to})
				}
			}
		}
		if len(before) == 0 {
			return s
		}
		m := before[r.Intn(len(before))]
		s[m[0]] += 2
		s[m[1]]--
	}
	return s
}

// P8.2, P8.5: supplies that some moves, undone one by one, lead back to are enough, though nothing of them is to spare.
func TestBackwards(t *testing.T) {
	r := rand.New(rand.NewSource(825))
	for n := 2; n <= 6; n++ {
		for _, g := range someGraphs(r, n, 500) {
			var one state
			for place := range n {
				one[place] = 1
			}
			supplies := g.back(r, one, n+r.Intn(n+7)).list(n)
			if is, e := supply.Covers(n, g.edges, supplies); !is || e != api.OK {
				t.Errorf("Covers(%v, %v) = %t, %d", g, supplies, is, e)
			}
			var some state
			goal := r.Intn(n)
			some[goal] = 1 + r.Intn(10)
			supplies = g.back(r, some, some[goal]+r.Intn(most-9)).list(n)
			got, e := supply.Most(n, g.edges, supplies, goal)
			plan, is, f := supply.Plan(n, g.edges, supplies, goal)
			if got < some[goal] || !is || !g.leads(supplies, goal, plan) || e != api.OK || f != api.OK {
				t.Errorf("%v, %v, %d: %d, not %d, %v, %t", g, supplies, goal, got, some[goal], plan, is)
			}
		}
	}
}

// P8.2: a supply at the goal needs no moves; a plan is made to its end, and may go on after something has come to the goal.
func TestIsPlan(t *testing.T) {
	w := way(3).edges
	for _, x := range []struct {
		supplies []int
		goal     int
		plan     []move
		want     bool
	}{
		{[]int{1, 0, 0}, 0, nil, true}, {[]int{0, 9, 9}, 0, nil, false}, {[]int{0, 2, 0}, 0, []move{{1, 0}}, true}, {[]int{0, 1, 0}, 0, []move{{1, 0}}, false},
		{[]int{0, 2, 0}, 0, []move{{1, 2}}, false}, {[]int{0, 0, 4}, 0, []move{{2, 1}, {2, 1}, {1, 0}}, true}, {[]int{0, 0, 4}, 0, []move{{2, 1}, {1, 0}, {2, 1}}, false},
		{[]int{0, 0, 4}, 0, []move{{2, 1}, {2, 1}}, false}, {[]int{0, 0, 4}, 0, []move{{2, 1}, {2, 1}, {1, 0}, {2, 1}}, false}, {[]int{0, 0, 8}, 0, []move{{2, 0}}, false},
		{[]int{1, 0, 3}, 0, []move{{2, 1}}, true}, {[]int{1, 0, 1}, 0, []move{{2, 1}}, false}, {[]int{2, 0, 0}, 0, []move{{0, 1}}, false}, {[]int{3, 0, 0}, 0, []move{{0, 1}}, true}, {[]int{3, 1, 0}, 2, []move{{0, 1}, {1, 2}}, true},
	} {
		if is, e := supply.IsPlan(3, w, x.supplies, x.goal, x.plan); is != x.want || e != api.OK {
			t.Errorf("IsPlan(%v, %d, %v) = %t, %d", x.supplies, x.goal, x.plan, is, e)
		}
	}
	for _, x := range []struct {
		supplies []int
		is       bool
		most     int
	}{{[]int{0}, false, 0}, {[]int{1}, true, 1}, {[]int{40}, true, 40}} {
		plan, is, e := supply.Plan(1, nil, x.supplies, 0)
		most, f := supply.Most(1, nil, x.supplies, 0)
		covers, h := supply.Covers(1, nil, x.supplies)
		if len(plan) != 0 || is != x.is || most != x.most || covers != x.is || e != api.OK || f != api.OK || h != api.OK {
			t.Errorf("one place with %v: %v, %t, %d, %t", x.supplies, plan, is, most, covers)
		}
	}
}

// P8.7: more supplies are enough for what fewer are enough for; weights never rise, and Most is at most the weight.
func TestWeights(t *testing.T) {
	r := rand.New(rand.NewSource(87))
	var risen int
	for n := 1; n <= 6; n++ {
		for _, g := range someGraphs(r, n, 60) {
			supplies, goal := someSupplies(r, n, r.Intn(most)), r.Intn(n)
			weight := g.weigh(supplies, goal)
			greatest, _ := supply.Most(n, g.edges, supplies, goal)
			if big.NewRat(int64(greatest), 1).Cmp(weight) > 0 {
				t.Errorf("Most(%v, %v, %d) = %d, more than %v", g, supplies, goal, greatest, weight)
			}
			moves, _ := supply.Moves(n, g.edges, supplies)
			for _, m := range moves {
				left, _, _ := supply.Do(n, g.edges, supplies, []move{m})
				if g.weigh(left, goal).Cmp(weight) > 0 {
					t.Errorf("%v: %v and the move %v have more weight", g, supplies, m)
				}
			}
			_, is, _ := supply.Plan(n, g.edges, supplies, goal)
			covers, _ := supply.Covers(n, g.edges, supplies)
			more := slices.Clone(supplies)
			more[r.Intn(n)]++
			_, still, _ := supply.Plan(n, g.edges, more, goal)
			stillCovers, _ := supply.Covers(n, g.edges, more)
			greater, _ := supply.Most(n, g.edges, more, goal)
			if is && !still || covers && !stillCovers || greater < greatest {
				t.Errorf("%v: %v is worse than %v", g, more, supplies)
			}
			if greater > greatest {
				risen++
			}
		}
	}
	if risen < 20 {
		t.Errorf("Most rose %d times", risen)
	}
}
