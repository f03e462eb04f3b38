package berth_test

import (
	"math"
	"math/big"
	"slices"
	"testing"

	"careen/api"
	"careen/berth"
)

// holdsAll tells whether no point is outside.
func holdsAll(c circle, points list) bool {
	return !slices.ContainsFunc(points, func(p [2]int) bool { return apart(c, p).Cmp(radius(c)) > 0 })
}

// hasHalfFree tells whether there is a half of the circle, ends included, with none of the points on it: then all ways from the middle to those points lie to the left of one of them, within less than half a turn.
func hasHalfFree(c circle, points list) bool {
	var ways list
	for _, p := range points {
		if apart(c, p).Cmp(radius(c)) == 0 {
			ways = append(ways, [2]int{p[0]*c.D - c.X, p[1]*c.D - c.Y})
		}
	}
	for _, first := range ways {
		free := true
		for _, way := range ways {
			turn, along := first[0]*way[1]-first[1]*way[0], first[0]*way[0]+first[1]*way[1]
			free = free && (turn > 0 || turn == 0 && along > 0)
		}
		if free {
			return true
		}
	}
	return len(ways) == 0
}

// isForce holds indices against the definition, without the smallest circle: a circle with a force on it is the smallest one if it holds all points.
func isForce(points list, force []int) bool {
	var corners list
	for _, i := range force {
		corners = append(corners, points[i])
	}
	switch len(corners) {
	case 1:
		return len(points) == 1
	case 2:
		// From a point inside or on a circle its diameter is seen under a right angle or a greater one.
		return !slices.ContainsFunc(points, func(p [2]int) bool {
			return squared(p, corners[0])+squared(p, corners[1]) > squared(corners[0], corners[1])
		})
	case 3:
		a, b, c := squared(corners[0], corners[1]), squared(corners[1], corners[2]), squared(corners[2], corners[0])
		isSharp := side(corners[0], corners[1], corners[2]) != 0 && 2*max(a, b, c) < a+b+c
		return isSharp && !slices.ContainsFunc(points, func(p [2]int) bool { return depth(corners[0], corners[1], corners[2], p) < 0 })
	}
	return false
}

// P4.3 and P4.5: Smallest holds all points, and as no half of it is free of them, no smaller circle does.
func TestSmallest(t *testing.T) {
	for _, x := range []struct {
		points list
		want   circle
	}{
		{list{{0, 0}, {4, 0}}, circle{2, 0, 1, 4}},
		{list{{0, 0}, {4, 0}, {1, 1}}, circle{2, 0, 1, 4}},
		{list{{0, 0}, {4, 0}, {2, 3}}, circle{12, 5, 6, 169}},
		{list{{0, 0}, {4, 0}, {2, 2}}, circle{2, 0, 1, 4}},
		{list{{7, -3}}, circle{7, -3, 1, 0}},
		{list{{0, 0}}, circle{0, 0, 1, 0}},
		{list{{0, 0}, {1, 1}, {5, 5}, {2, 2}}, circle{5, 5, 2, 50}},
		{square, circle{1, 1, 1, 2}},
		{wheel, circle{0, 0, 1, 25}},
	} {
		if got, e := berth.Smallest(x.points); got != x.want || e != api.OK {
			t.Errorf("Smallest(%v) = %v, %d, not %v", x.points, got, e, x.want)
		}
	}
	byThree := 0
	for _, points := range examples() {
		c, e := berth.Smallest(points)
		if e != api.OK || berth.CheckCircle(c) != api.OK || !holdsAll(c, points) || hasHalfFree(c, points) {
			t.Errorf("Smallest(%v) = %v, %d", points, c, e)
		}
		on, e := berth.On(points, c)
		if e != api.OK || len(on) < min(2, len(points)) {
			t.Errorf("%v: on the smallest circle are %v", points, on)
		}
		if force, _ := berth.Force(points); len(force) == 3 {
			byThree++
		}
	}
	if byThree < 100 {
		t.Errorf("only %d circles through three points", byThree)
	}
}

// P4.3: IsSmallest, of the smallest circle, and of others near it, larger and smaller ones.
func TestIsSmallest(t *testing.T) {
	for _, points := range examples() {
		c, _ := berth.Smallest(points)
		if ok, e := berth.IsSmallest(points, c); !ok || e != api.OK {
			t.Errorf("IsSmallest(%v, %v) = %t, %d", points, c, ok, e)
		}
		others := []circle{{c.X, c.Y, c.D, c.R + 1}, {c.X, c.Y, c.D, c.R - 1}, {c.X + 1, c.Y, c.D, c.R}, {c.X, c.Y - 1, c.D, c.R}, {c.X, c.Y, c.D + 1, c.R}, {c.Y, c.X, c.D, c.R}, {0, 0, 1, 800}}
		for i := range len(points) - 1 {
			over, _ := berth.Over(points[i], points[i+1])
			others = append(others, over)
		}
		for i := range len(points) - 2 {
			through, _ := berth.Through(points[i], points[i+1], points[i+2])
			others = append(others, through)
		}
		for _, other := range others {
			error := berth.CheckCircle(other)
			if ok, e := berth.IsSmallest(points, other); ok != (other == c) || e != error {
				t.Errorf("IsSmallest(%v, %v) = %t, %d", points, other, ok, e)
			}
		}
	}
}

// P4.3: Force returns a force, rising.
func TestForce(t *testing.T) {
	for _, points := range examples() {
		force, e := berth.Force(points)
		if e != api.OK || !slices.IsSorted(force) || !isForce(points, force) {
			t.Errorf("Force(%v) = %v, %d", points, force, e)
		}
		if ok, e := berth.IsForce(points, force); !ok || e != api.OK {
			t.Errorf("IsForce(%v, %v) = %t, %d", points, force, ok, e)
		}
	}
	for _, x := range []struct {
		points list
		want   []int
	}{
		{list{{4, 4}}, []int{0}},
		{list{{0, 0}, {4, 0}}, []int{0, 1}},
		{list{{0, 0}, {4, 0}, {1, 1}}, []int{0, 1}},
		{list{{0, 0}, {4, 0}, {2, 3}}, []int{0, 1, 2}},
		{list{{0, 0}, {2, 2}, {0, 4}}, []int{0, 2}},
	} {
		if got, e := berth.Force(x.points); !slices.Equal(got, x.want) || e != api.OK {
			t.Errorf("Force(%v) = %v, %d, not %v", x.points, got, e, x.want)
		}
	}
}

// P4.3: IsForce, of all rising lists of up to four indices.
func TestIsForce(t *testing.T) {
	for _, points := range examples() {
		if len(points) > 8 && len(points) < 12 {
			continue
		}
		for k := range 5 {
			for _, force := range choices(len(points), k) {
				want := isForce(points, force)
				if got, e := berth.IsForce(points, force); got != want || e != api.OK {
					t.Errorf("IsForce(%v, %v) = %t, %d", points, force, got, e)
				}
			}
		}
	}
}

// P4.3: IsForce is false for indices that are none, or do not rise.
func TestWrongForces(t *testing.T) {
	for _, x := range []struct {
		points list
		forces [][]int
	}{
		{list{{4, 4}}, [][]int{nil, {}, {1}, {-1}, {0, 0}, {0, 1}, {0, 0, 0}, {math.MinInt}, {math.MaxInt}}},
		{list{{0, 0}, {4, 0}}, [][]int{nil, {0}, {1}, {1, 0}, {0, 0}, {1, 1}, {0, 2}, {-1, 1}, {0, 1, 1}, {0, 0, 1}, {0, 1, 2}, {math.MinInt, math.MaxInt}}},
		{list{{0, 0}, {4, 0}, {2, 3}}, [][]int{{0, 2, 1}, {1, 0, 2}, {2, 1, 0}, {1, 2, 0}, {2, 0, 1}, {0, 1, 3}, {-1, 1, 2}, {0, 1}, {0, 2}, {1, 2}, {0, 1, 2, 2}, {0, 1, 2, 3}}},
		{wheel, [][]int{{6, 0}, {0, 5}, {0, 1, 6}, {0, 3, 6, 9}, {0, 12}, {-6, 0}, {0, 1, 2}, {9, 6, 0}, {0, 5, 5}, make([]int, 1000)}},
	} {
		for _, force := range x.forces {
			if ok, e := berth.IsForce(x.points, force); ok || e != api.OK {
				t.Errorf("IsForce(%v, %v) = %t, %d", x.points, force, ok, e)
			}
		}
	}
	for _, force := range [][]int{{0, 6}, {3, 9}, {0, 4, 8}, {0, 5, 7}} {
		if ok, e := berth.IsForce(wheel, force); !ok || e != api.OK {
			t.Errorf("IsForce(%v, %v) = %t, %d", wheel, force, ok, e)
		}
	}
}

// P4.5: the smallest circle is that of the points of any force.
func TestForceIsEnough(t *testing.T) {
	for _, points := range examples() {
		c, _ := berth.Smallest(points)
		for k := 1; k <= 3; k++ {
			for _, force := range choices(len(points), k) {
				if ok, _ := berth.IsForce(points, force); !ok {
					continue
				}
				var few list
				for _, i := range force {
					few = append(few, points[i])
				}
				if ok, e := berth.IsSmallest(few, c); !ok || e != api.OK {
					t.Errorf("%v, force %v: IsSmallest of %v = %t, %d", points, force, c, ok, e)
				}
			}
		}
	}
}

// P4.6: Jung's bounds of the radius, by the greatest distance.
func TestJung(t *testing.T) {
	for _, points := range examples() {
		if len(points) < 2 {
			continue
		}
		c, _ := berth.Smallest(points)
		_, far, e := berth.Pairs(points)
		width := frac(squared(points[far[0]], points[far[1]]), 1)
		four, three := new(big.Rat).Mul(frac(4, 1), radius(c)), new(big.Rat).Mul(frac(3, 1), radius(c))
		if e != api.OK || four.Cmp(width) < 0 || three.Cmp(width) > 0 {
			t.Errorf("%v: the square of the radius %v, that of the width %v", points, radius(c), width)
		}
	}
}
