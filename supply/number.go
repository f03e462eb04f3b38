package supply

import (
	"slices"

	"careen/api"
)

// Number returns the least t such that all supplies with the sum t are enough for the goal.
func Number(n int, edges [][2]int, goal int) (int, api.Errno) {
	g, e := graphWith(n, edges, goal)
	if e != api.OK {
		return 0, e
	}
	poor := g.poor(goal)
	return sum(poor[:]...) + 1, api.OK
}

// Poor returns supplies that are not enough for the goal, with a sum one less than the number.
func Poor(n int, edges [][2]int, goal int) ([]int, api.Errno) {
	g, e := graphWith(n, edges, goal)
	if e != api.OK {
		return nil, e
	}
	return g.poor(goal).list(n), api.OK
}

// CoverNumber returns the least t such that all supplies with the sum t cover the graph.
func CoverNumber(n int, edges [][2]int) (int, api.Errno) {
	g, e := graphOf(n, edges)
	if e != api.OK {
		return 0, e
	}
	// By Sjostrand's theorem (P8.8), supplies that do not cover the graph can be put into one place.
	most := 0
	for place := range n {
		most = max(most, g.coverFrom(place))
	}
	return most, api.OK
}

// coverFrom is how many supplies at one place cover the graph.
func (g graph) coverFrom(place int) int {
	var needed amounts
	for other := range g.places {
		needed[other] = 1 << g.far[place][other]
	}
	return sum(needed[:]...)
}

// poor are as many supplies as possible that are not enough for the goal.
func (g graph) poor(goal int) amounts {
	level := []amounts{{}}
	for {
		next := g.larger(level, goal)
		if len(next) == 0 {
			return level[0]
		}
		level = next
	}
}

// larger are all poor supplies with one more than a level, which is all poor supplies with some sum. Less than poor supplies is poor, too, so each of them is one of the level and one supply.
func (g graph) larger(level []amounts, goal int) []amounts {
	poor := set{}
	for _, have := range level {
		poor[have] = true
	}
	var list []amounts
	seen := set{}
	for _, have := range level {
		for place := range g.places {
			more := have
			more[place]++
			if place == goal || seen[more] {
				continue
			}
			seen[more] = true
			if !slices.ContainsFunc(g.results(more), poor.lacks) {
				list = append(list, more)
			}
		}
	}
	return list
}

// results are what one move each makes of supplies.
func (g graph) results(have amounts) []amounts {
	var list []amounts
	for m := range g.moves(have) {
		list = append(list, have.after(m))
	}
	return list
}

type set map[amounts]bool

func (s set) lacks(a amounts) bool {
	return !s[a]
}
