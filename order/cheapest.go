package order

import (
	"math/bits"

	"careen/api"
)

const mostCost = 1_000_000

// Cheapest returns a whole word for which the greatest of the costs, each times the place of its hull in the word, is as small as possible, and this greatest number.
func Cheapest(o Order, costs []int) ([]int, int, api.Errno) {
	if e := check(o); e != api.OK {
		return nil, 0, e
	}
	if !o.isSound() {
		return nil, 0, api.ErrNone
	}
	if !areCosts(o, costs) {
		return nil, 0, api.ErrArg
	}
	plans := o.plans(costs)
	word := wordOf(o.all(), func(hull, rest int) bool { return plans[rest|setOf(hull)].last == hull })
	return word, plans[o.all()].cost, api.OK
}

func areCosts(o Order, costs []int) bool {
	if len(costs) != o.N {
		return false
	}
	for _, cost := range costs {
		if cost < 0 || cost > mostCost {
			return false
		}
	}
	return true
}

// plan is how a sound set goes most cheaply: with which hull as the last one, and at what cost, which is the greatest of the costs times places.
type plan struct{ last, cost int }

// plans are those of all sound sets. To take the cheapest end as the last hull would not do: without it, hulls may have to wait longer.
func (o Order) plans(costs []int) [1 << mostHulls]plan {
	var plans [1 << mostHulls]plan
	m := o.sound()
	for set := range m.sets() {
		place := bits.OnesCount(uint(set))
		var choices []plan
		for _, end := range m.ends(set) {
			rest := plans[set&^setOf(end)]
			choices = append(choices, plan{end, max(rest.cost, costs[end]*place)})
		}
		plans[set] = best(choices, func(p plan) int { return p.cost })
	}
	return plans
}

// best keeps the first of several that costs least, or the zero value if there is none.
func best[T any](several []T, cost func(T) int) T {
	var kept T
	for i, one := range several {
		if i == 0 || cost(one) < cost(kept) {
			kept = one
		}
	}
	return kept
}
