package supply

import (
	"cmp"
	"slices"

	"careen/api"
)

// Parts returns the parts of a tree for the goal, falling.
func Parts(n int, edges [][2]int, goal int) ([]int, api.Errno) {
	g, e := treeOf(n, edges, goal)
	if e != api.OK {
		return nil, e
	}
	return g.parts(goal), api.OK
}

// TreeNumber returns the sum of 2 to the power of each part, less the number of parts, and 1.
func TreeNumber(n int, edges [][2]int, goal int) (int, api.Errno) {
	g, e := treeOf(n, edges, goal)
	if e != api.OK {
		return 0, e
	}
	number := 1
	for _, part := range g.parts(goal) {
		number += 1<<part - 1
	}
	return number, api.OK
}

// treeOf is the graph of the edges, with the first error of these and of a place, then ErrNone if it is not a tree.
func treeOf(n int, edges [][2]int, place int) (graph, api.Errno) {
	g, e := graphWith(n, edges, place)
	if e == api.OK && len(edges) != n-1 {
		return graph{}, api.ErrNone
	}
	return g, e
}

// way is a way from some place to another one, away from the goal.
type way struct{ length, place int }

// parts are those of a tree. Where ways from the goal go apart, the longest goes on, and each other one is a part that begins there.
func (g graph) parts(goal int) []int {
	var parts []int
	var longest func(before, place int) way
	longest = func(before, place int) way {
		ways := []way{{0, place}}
		for next := range g.places {
			if next != before && g.areBeside(place, next) {
				w := longest(place, next)
				ways = append(ways, way{w.length + 1, w.place})
			}
		}
		goesOn := slices.MaxFunc(ways, func(v, w way) int { return cmp.Compare(v.length, w.length) })
		for _, w := range ways[1:] {
			if w != goesOn {
				parts = append(parts, w.length)
			}
		}
		return goesOn
	}
	if w := longest(goal, goal); w.length > 0 {
		parts = append(parts, w.length)
	}
	slices.SortFunc(parts, func(a, b int) int { return cmp.Compare(b, a) })
	return parts
}
