package order

import "careen/api"

// Closure returns the least closed set that contains a set of hulls.
func Closure(o Order, set int) (int, api.Errno) {
	if e := checkClosed(o, set); e != api.OK {
		return 0, e
	}
	return o.closure(set), api.OK
}

// Corners returns the hulls in a set that are not in the closure of the others in it.
func Corners(o Order, set int) (int, api.Errno) {
	if e := checkClosed(o, set); e != api.OK {
		return 0, e
	}
	corners := 0
	for hull := range hullsOf(set) {
		others := set &^ setOf(hull)
		corners |= setOf(hull) &^ o.closure(others)
	}
	return corners, api.OK
}

// checkClosed checks the order and the set, and returns ErrNone if the order, not being sound, has no closed sets.
func checkClosed(o Order, set int) api.Errno {
	if e := check(o, set); e != api.OK {
		return e
	}
	if !o.isSound() {
		return api.ErrNone
	}
	return api.OK
}

// isSound tells whether all hulls can go.
func (o Order) isSound() bool {
	return o.greatest(o.all()) == o.all()
}

func (o Order) closure(set int) int {
	return o.all() &^ o.greatest(o.all()&^set)
}
