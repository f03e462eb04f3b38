package order

import (
	"cmp"
	"slices"

	"careen/api"
)

const (
	mostPairs  = 40
	mostNumber = 100 // the numbers of a point go from -mostNumber to mostNumber
)

// Same returns 0 and true if both orders have the same N and the same sound sets; otherwise the least set that is sound in just one of them (0 if N differs), and false.
func Same(a, b Order) (int, bool, api.Errno) {
	for _, o := range [...]Order{a, b} {
		if e := check(o); e != api.OK {
			return 0, false, e
		}
	}
	if a.N != b.N {
		return 0, false, api.OK
	}
	inB := b.sound()
	for set, inA := range a.sound() {
		if inA != inB[set] {
			return set, false, api.OK
		}
	}
	return 0, true, api.OK
}

// ByPairs returns the order in which each hull waits for all i with a pair {i, hull}.
func ByPairs(n int, pairs [][2]int) (Order, api.Errno) {
	if n < 1 || n > mostHulls || len(pairs) > mostPairs {
		return Order{}, api.ErrArg
	}
	var waits [mostHulls]int
	for _, p := range pairs {
		if min(p[0], p[1]) < 0 || max(p[0], p[1]) >= n || p[0] == p[1] {
			return Order{}, api.ErrArg
		}
		waits[p[1]] |= setOf(p[0])
	}
	o := Order{N: n, Ways: make([][]int, n)}
	for hull, set := range waits[:n] {
		if set != 0 {
			o.Ways[hull] = []int{set}
		}
	}
	return o, api.OK
}

// ByPoints returns an order whose sound sets are those of which no point lies in the convex hull of the points that are not in the set.
func ByPoints(points [][2]int) (Order, api.Errno) {
	if !arePoints(points) {
		return Order{}, api.ErrArg
	}
	o := Order{N: len(points), Ways: make([][]int, len(points))}
	var m marks
	for set := range 1 << o.N {
		m[set] = isFree(points, set)
	}
	// A hull can go just if the rest of a path that ends with it has gone. No such path is within another one, so there are at most 35 for each hull: the sets of 3 of 7 others.
	for path, end := range m.paths() {
		o.Ways[end] = append(o.Ways[end], path&^setOf(end))
	}
	return o, api.OK
}

func arePoints(points [][2]int) bool {
	if len(points) < 1 || len(points) > mostHulls {
		return false
	}
	for i, p := range points {
		if min(p[0], p[1]) < -mostNumber || max(p[0], p[1]) > mostNumber || slices.Contains(points[:i], p) {
			return false
		}
	}
	return true
}

// isFree tells whether no point of the set lies in the convex hull of the points that are not in it.
func isFree(points [][2]int, set int) bool {
	var others [][2]int
	for i, p := range points {
		if set&setOf(i) == 0 {
			others = append(others, p)
		}
	}
	for i := range hullsOf(set) {
		if !isOutside(points[i], others) {
			return false
		}
	}
	return true
}

// isOutside tells whether a point lies outside the convex hull of others, it being none of them: whether, seen from it, one of them is the rightmost one, less than half a turn from all others.
func isOutside(p [2]int, others [][2]int) bool {
	isRightmost := func(first [2]int) bool {
		return !slices.ContainsFunc(others, func(other [2]int) bool {
			t := turnOf(p, first, other)
			return t != turn{} && t != turn{side: 1}
		})
	}
	return len(others) == 0 || slices.ContainsFunc(others, isRightmost)
}

// turn is the way in which one turns from one direction to another one: to which side (1: left, -1: right), or, if to none, whether all around.
type turn struct {
	side   int
	around bool
}

// turnOf is the turn of who looks from a point to one and then to another one.
func turnOf(from, one, other [2]int) turn {
	x, y := one[0]-from[0], one[1]-from[1]
	u, v := other[0]-from[0], other[1]-from[1]
	side := cmp.Compare(x*v, y*u)
	return turn{side, side == 0 && x*u+y*v < 0}
}
