package berth

import (
	"slices"

	"careen/api"
)

// Empty returns all empty triples, in the order of lists.
func Empty(points [][2]int) ([][3]int, api.Errno) {
	if e := Check(points); e != api.OK {
		return nil, e
	}
	var list [][3]int
	for t := range triples(len(points)) {
		c, ok := through(points[t[0]], points[t[1]], points[t[2]])
		isInside := func(p [2]int) bool { return c.where(p) < 0 }
		if ok && !slices.ContainsFunc(points, isInside) {
			list = append(list, t)
		}
	}
	return list, api.OK
}

// Nearest returns the indices of the points whose distance to the place is least, rising.
func Nearest(points [][2]int, place [2]int) ([]int, api.Errno) {
	return least(points, place, spot(place).distance)
}

// Farthest returns the indices of the points whose distance to the place is greatest, rising.
func Farthest(points [][2]int, place [2]int) ([]int, api.Errno) {
	return least(points, place, spot(place).nearness)
}

// Pairs returns the first two points with the least distance, and the first two with the greatest one.
func Pairs(points [][2]int) (near, far [2]int, e api.Errno) {
	if e := Check(points); e != api.OK {
		return [2]int{}, [2]int{}, e
	}
	if len(points) < 2 {
		return [2]int{}, [2]int{}, api.ErrArg
	}
	distance := func(pair [2]int) int { return spot(points[pair[0]]).distance(points[pair[1]]) }
	near, far = [2]int{0, 1}, [2]int{0, 1}
	for pair := range pairs(len(points)) {
		if distance(pair) < distance(near) {
			near = pair
		}
		if distance(pair) > distance(far) {
			far = pair
		}
	}
	return near, far, api.OK
}

// spot is a place from which distances are taken.
type spot [2]int

// distance is the square of the distance to a point.
func (s spot) distance(p [2]int) int {
	return sumOfSquares(p[0]-s[0], p[1]-s[1])
}

// nearness is the less the farther away a point is.
func (s spot) nearness(p [2]int) int {
	return -s.distance(p)
}

// least checks the points and the place, and lists the indices of the points whose measure is least, rising.
func least(points [][2]int, place [2]int, measure func(p [2]int) int) ([]int, api.Errno) {
	if e := Check(points); e != api.OK {
		return nil, e
	}
	if e := checkPairs(place); e != api.OK {
		return nil, e
	}
	low := measure(points[0])
	for _, p := range points {
		low = min(low, measure(p))
	}
	return which(points, func(p [2]int) bool { return measure(p) == low }), api.OK
}
