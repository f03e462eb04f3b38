package supply

import (
	"cmp"
	"slices"

	"careen/api"
)

// Plan returns a plan for the goal, and whether there is one.
func Plan(n int, edges [][2]int, supplies []int, goal int) ([][2]int, bool, api.Errno) {
	g, have, e := input(n, edges, supplies, goal)
	if e != api.OK {
		return nil, false, e
	}
	plan, is := g.plan(have, at(goal, 1))
	return plan, is, api.OK
}

// IsPlan returns whether plan is one for the goal.
func IsPlan(n int, edges [][2]int, supplies []int, goal int, plan [][2]int) (bool, api.Errno) {
	g, have, e := input(n, edges, supplies, goal)
	if e != api.OK {
		return false, e
	}
	left, made := g.do(have, plan)
	return made == len(plan) && left[goal] > 0, api.OK
}

// Most returns the greatest number of supplies that there can be at the goal after some moves.
func Most(n int, edges [][2]int, supplies []int, goal int) (int, api.Errno) {
	g, have, e := input(n, edges, supplies, goal)
	if e != api.OK {
		return 0, e
	}
	most := g.weight(have, goal) / wholeWeight
	for {
		if _, is := g.plan(have, at(goal, most)); is {
			return most, api.OK
		}
		most--
	}
}

// Covers returns whether there can be a supply at each place after some moves.
func Covers(n int, edges [][2]int, supplies []int) (bool, api.Errno) {
	g, have, e := input(n, edges, supplies)
	if e != api.OK {
		return false, e
	}
	var wanted amounts
	for place := range n {
		wanted[place] = 1
	}
	_, is := g.plan(have, wanted)
	return is, api.OK
}

func at(place, amount int) amounts {
	var a amounts
	a[place] = amount
	return a
}

// plan is a list of moves after which there is as much as wanted at each place, and whether there is one.
func (g graph) plan(have, wanted amounts) ([]move, bool) {
	if have.holds(wanted) {
		return nil, true
	}
	// The last move on the way to what was reached; all of them lead back to what there is at first, since each uses up a supply.
	came := map[amounts]move{}
	var follow func(amounts) []move
	follow = func(reached amounts) []move {
		if reached == have {
			return nil
		}
		last := came[reached]
		return append(follow(reached.before(last)), last)
	}
	open := []amounts{have}
	var found []move
search:
	for len(open) > 0 {
		now := open[len(open)-1]
		open = open[:len(open)-1]
		for _, m := range g.useful(now, wanted) {
			next := now.after(m)
			if _, was := came[next]; was || g.isHopeless(next, wanted) {
				continue
			}
			came[next] = m
			if next.holds(wanted) {
				found = follow(next)
				break search
			}
			open = append(open, next)
		}
	}
	return found, len(found) > 0
}

// wholeWeight is the weight of a supply at the place for which it is weighed. It is so great that all weights are integers.
const wholeWeight = 1 << mostPlaces

// weight is the sum of the supplies, each divided by 2 to the power of its distance from the goal, as a multiple of 1 / wholeWeight.
func (g graph) weight(have amounts, goal int) int {
	total := 0
	for place := range g.places {
		total += have[place] * wholeWeight >> g.far[goal][place]
	}
	return total
}

// isHopeless returns whether the supplies weigh less than those that are wanted, since weights never rise.
func (g graph) isHopeless(have, wanted amounts) bool {
	for place := range g.places {
		if g.weight(have, place) < g.weight(wanted, place) {
			return true
		}
	}
	return false
}

// useful are moves of which one leads on to what is wanted, if any move does, the most promising one last.
//
// A plan never needs to go round a ring: without those moves more would be left. So its moves can be put into such an order that no place gets something after it has given, and they need to take from a place only what is not wanted there.
func (g graph) useful(have, wanted amounts) []move {
	var lacking []int
	for place := range g.places {
		if have[place] < wanted[place] {
			lacking = append(lacking, place)
		}
	}
	var list []move
	for m := range g.moves(have) {
		if have[m[0]]-2 >= wanted[m[0]] {
			list = append(list, m)
		}
	}
	farthest := func(l, m move) int {
		return cmp.Compare(g.nearest(lacking, m[1]), g.nearest(lacking, l[1]))
	}
	slices.SortStableFunc(list, farthest)
	last := len(list) - 1
	if last >= 0 && len(lacking) == 1 && list[last][1] == lacking[0] {
		// Nothing is lost by this move: a plan that takes its two supplies elsewhere can do without that move, and without the move that goes on with its supply, and so on.
		return list[last:]
	}
	return list
}

// nearest is the distance of a place from the nearest of some others.
func (g graph) nearest(others []int, place int) int {
	least := mostPlaces
	for _, other := range others {
		least = min(least, g.far[place][other])
	}
	return least
}
