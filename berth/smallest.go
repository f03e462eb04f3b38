package berth

import (
	"slices"

	"careen/api"
)

// Smallest returns the smallest circle that has all points inside or on it.
func Smallest(points [][2]int) (Circle, api.Errno) {
	if e := Check(points); e != api.OK {
		return Circle{}, e
	}
	return smallest(points), api.OK
}

// IsSmallest returns whether c is the smallest circle.
func IsSmallest(points [][2]int, c Circle) (bool, api.Errno) {
	if e := checkAll(points, c); e != api.OK {
		return false, e
	}
	return c == smallest(points), api.OK
}

// Force returns points that hold the smallest circle: the first force as i <= j <= k, where a point that comes twice counts once.
func Force(points [][2]int) ([]int, api.Errno) {
	if e := Check(points); e != api.OK {
		return nil, e
	}
	c := smallest(points)
	var force []int
search:
	for i := range points {
		for j := i; j < len(points); j++ {
			for k := j; k < len(points); k++ {
				force = slices.Compact([]int{i, j, k})
				if isForce(points, c, force) {
					break search
				}
			}
		}
	}
	return force, api.OK
}

// IsForce returns whether force is one.
func IsForce(points [][2]int, force []int) (bool, api.Errno) {
	if e := Check(points); e != api.OK {
		return false, e
	}
	return areIndices(points, force) && isForce(points, smallest(points), force), api.OK
}

// areIndices tells whether these are indices of points, rising.
func areIndices(points [][2]int, indices []int) bool {
	last := -1
	for _, i := range indices {
		if i <= last || i >= len(points) {
			return false
		}
		last = i
	}
	return true
}

// isForce tells whether rising indices are a force, the smallest circle being c.
func isForce(points [][2]int, c Circle, force []int) bool {
	switch len(force) {
	case 1:
		return len(points) == 1
	case 2:
		return over(points[force[0]], points[force[1]]) == c
	case 3:
		return isSharp(c, points[force[0]], points[force[1]], points[force[2]])
	}
	return false
}

// isSharp tells whether the three corners are on the circle and all angles less than a right one.
func isSharp(c Circle, corners ...[2]int) bool {
	for i, at := range corners {
		next, other := corners[(i+1)%3], corners[(i+2)%3]
		if c.where(at) != 0 || dot(minus(next, at), minus(other, at)) <= 0 {
			return false
		}
	}
	return true
}

func smallest(points [][2]int) Circle {
	isTooSmall := func(c Circle) bool {
		return slices.ContainsFunc(points, func(p [2]int) bool { return c.where(p) > 0 })
	}
	return slices.MinFunc(slices.DeleteFunc(circles(points), isTooSmall), Circle.compare)
}

// circles are those over two points (or twice the same one), and those through three. As there always is a force, the smallest circle is among them.
func circles(points [][2]int) []Circle {
	var list []Circle
	for i, p := range points {
		for _, q := range points[i:] {
			list = append(list, over(p, q))
		}
	}
	for t := range triples(len(points)) {
		if c, ok := through(points[t[0]], points[t[1]], points[t[2]]); ok {
			list = append(list, c)
		}
	}
	return list
}
