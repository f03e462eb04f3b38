package supply_test

import (
	"math"
	"math/rand"
	"slices"
	"testing"

	"careen/api"
	"careen/supply"
)

// ways yields the places of all ways from a place that have no edge that was taken.
func (g graph) ways(way []int, taken map[move]bool, yield func([]int)) {
	yield(way)
	last := way[len(way)-1]
	for next := range g.n {
		if g.joins(last, next) && !slices.Contains(way, next) && !taken[move{min(last, next), max(last, next)}] {
			g.ways(append(slices.Clone(way), next), taken, yield)
		}
	}
}

// parts are those by the definition; among ways of the same length, choose takes one.
func (g graph) parts(goal int, choose func(count int) int) []int {
	var parts []int
	taken := map[move]bool{}
	ends := []int{goal}
	for len(taken) < len(g.edges) {
		var longest [][]int
		for _, start := range ends {
			g.ways([]int{start}, taken, func(way []int) {
				if len(longest) > 0 && len(way) > len(longest[0]) {
					longest = nil
				}
				if len(longest) == 0 || len(way) == len(longest[0]) {
					longest = append(longest, way)
				}
			})
		}
		way := longest[choose(len(longest))]
		for k := range len(way) - 1 {
			taken[move{min(way[k], way[k+1]), max(way[k], way[k+1])}] = true
		}
		ends = append(ends, way...)
		parts = append(parts, len(way)-1)
	}
	slices.Sort(parts)
	slices.Reverse(parts)
	return parts
}

// P8.4, P8.6: Parts by their definition, TreeNumber from them, and Number, for all trees and goals.
func TestTrees(t *testing.T) {
	r := rand.New(rand.NewSource(84))
	count := 0
	for n := 1; n <= 6; n++ {
		for _, g := range trees(n) {
			count++
			for goal := range n {
				want := g.parts(goal, r.Intn)
				parts, e := supply.Parts(n, g.edges, goal)
				if !slices.Equal(parts, want) || e != api.OK {
					t.Errorf("Parts(%v, %d) = %v, %d, not %v", g, goal, parts, e, want)
				}
				sum := 1 - len(want)
				for _, part := range want {
					sum += 1 << part
				}
				number, e := supply.TreeNumber(n, g.edges, goal)
				if number != sum || e != api.OK {
					t.Errorf("TreeNumber(%v, %d) = %d, %d, not %d", g, goal, number, e, sum)
				}
				if n == 6 && (goal+count)%10 > 0 {
					continue
				}
				if same, e := supply.Number(n, g.edges, goal); same != number || e != api.OK {
					t.Errorf("Number(%v, %d) = %d, %d, not %d", g, goal, same, e, number)
				}
			}
		}
	}
	// By Cayley, there are n^(n - 2) trees.
	if count != 1+1+3+16+125+1296 {
		t.Errorf("%d trees", count)
	}
}

// P8.4: parts that are known.
func TestParts(t *testing.T) {
	fork := graph{6, []move{{0, 1}, {1, 2}, {1, 4}, {2, 3}, {4, 5}}}
	for _, x := range []struct {
		g      graph
		goal   int
		parts  []int
		number int
	}{
		{graph{n: 1}, 0, nil, 1}, {way(2), 1, []int{1}, 2}, {way(6), 0, []int{5}, 32}, {way(6), 2, []int{3, 2}, 11}, {way(5), 2, []int{2, 2}, 7},
		{star(6), 0, []int{1, 1, 1, 1, 1}, 6}, {star(6), 3, []int{2, 1, 1, 1}, 7}, {fork, 0, []int{3, 2}, 11}, {fork, 1, []int{2, 2, 1}, 8}, {fork, 3, []int{4, 1}, 17}, {fork, 4, []int{3, 1, 1}, 10},
	} {
		parts, e := supply.Parts(x.g.n, x.g.edges, x.goal)
		number, f := supply.TreeNumber(x.g.n, x.g.edges, x.goal)
		if !slices.Equal(parts, x.parts) || number != x.number || e != api.OK || f != api.OK {
			t.Errorf("%v, %d: %v, %d, %d, %d", x.g, x.goal, parts, number, e, f)
		}
	}
}

// P8.4: ErrNone for all graphs that are no trees, after ErrArg for the goal.
func TestNoTrees(t *testing.T) {
	var count int
	for _, g := range upTo(5) {
		if len(g.edges) == g.n-1 {
			continue
		}
		count++
		for goal := range g.n {
			fails(t, api.ErrNone, treeCalls(g, goal), g, goal)
		}
		for _, goal := range []int{-1, g.n, math.MaxInt, math.MinInt} {
			fails(t, api.ErrArg, treeCalls(g, goal), g, goal)
		}
	}
	if count != 1+38-16+728-125 {
		t.Errorf("%d graphs that are no trees", count)
	}
}

func treeCalls(g graph, goal int) map[string]outcome {
	return map[string]outcome{
		"Parts":      many(supply.Parts(g.n, g.edges, goal)),
		"TreeNumber": value(supply.TreeNumber(g.n, g.edges, goal)),
	}
}
