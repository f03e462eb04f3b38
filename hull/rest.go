package hull

import "careen/api"

// Rests returns the rests, rising.
func Rests(hull [][2]int) ([]int, api.Errno) {
	b, e := bodyOf(hull)
	return b.which(b.isRest), e
}

// Firm returns the firm rests, rising.
func Firm(hull [][2]int) ([]int, api.Errno) {
	b, e := bodyOf(hull)
	return b.which(b.isFirm), e
}

// Tips returns the tips, rising.
func Tips(hull [][2]int) ([]int, api.Errno) {
	b, e := bodyOf(hull)
	if e != api.OK {
		return nil, e
	}
	var tips []int
	for i, c := range corners(hull) {
		inwards := b.inwards(c.at)
		if dot(inwards, minus(c.before, c.at)) > 0 && dot(inwards, minus(c.after, c.at)) > 0 {
			tips = append(tips, i)
		}
	}
	return tips, api.OK
}

// Roll returns the sides over which the hull rolls from a side to a rest, both included.
func Roll(hull [][2]int, side int) ([]int, api.Errno) {
	b, e := bodyOf(hull, side)
	if e != api.OK {
		return nil, e
	}
	n := len(hull)
	var roll []int
rolling:
	for {
		roll = append(roll, side)
		foot := b.foot(side)
		switch {
		case foot.less(whole(0)):
			side = (side + n - 1) % n
		case whole(1).less(foot):
			side = (side + 1) % n
		default:
			break rolling
		}
	}
	return roll, api.OK
}

// Lean returns the square of the distance of the middle from the line of a side, in lowest terms.
func Lean(hull [][2]int, side int) ([2]int64, api.Errno) {
	b, e := bodyOf(hull, side)
	if e != api.OK {
		return [2]int64{}, e
	}
	height, d := b.height(side), int64(b.middle[2])
	lean := fractionOf(height.num, height.den*d*d)
	return [2]int64{lean.num, lean.den}, api.OK
}

// Lowest returns the side with the least lean, of several the first.
func Lowest(hull [][2]int) (int, api.Errno) {
	b, e := bodyOf(hull)
	low := 0
	for side := range b.hull {
		if b.height(side).less(b.height(low)) {
			low = side
		}
	}
	return low, e
}

// body is a hull with X, Y and D of its middle; without a corner it is none.
type body struct {
	hull   [][2]int
	middle [3]int
}

// bodyOf is the body of a hull of which all these are sides.
func bodyOf(hull [][2]int, sides ...int) (body, api.Errno) {
	if e := Check(hull); e != api.OK {
		return body{}, e
	}
	for _, side := range sides {
		if side < 0 || side >= len(hull) {
			return body{}, api.ErrArg
		}
	}
	return body{hull, middleOf(hull)}, api.OK
}

func middleOf(hull [][2]int) [3]int {
	var areas, xs, ys []int
	for _, c := range corners(hull) {
		// The middle of the triangle of a side and 0, 0 is a third of the sum of its corners.
		area := cross(c.at, c.after)
		areas = append(areas, area)
		xs = append(xs, area*(c.at[0]+c.after[0]))
		ys = append(ys, area*(c.at[1]+c.after[1]))
	}
	x, y, d := sum(xs...), sum(ys...), 3*sum(areas...)
	g := gcd(gcd(x, y), d)
	return [3]int{x / g, y / g, d / g}
}

// which lists the sides for which something holds.
func (b body) which(holds func(side int) bool) []int {
	var sides []int
	for side := range b.hull {
		if holds(side) {
			sides = append(sides, side)
		}
	}
	return sides
}

func (b body) isRest(side int) bool {
	return b.foot(side).within(whole(0), whole(1))
}

func (b body) isFirm(side int) bool {
	foot := b.foot(side)
	return b.isRest(side) && foot != whole(0) && foot != whole(1)
}

// along is the way from the first end of a side to the other one.
func (b body) along(side int) [2]int {
	return minus(b.hull[(side+1)%len(b.hull)], b.hull[side])
}

// inwards is the way from a corner to the middle, D times as long to be one of integers.
func (b body) inwards(corner [2]int) [2]int {
	x, y, d := b.middle[0], b.middle[1], b.middle[2]
	return [2]int{x - d*corner[0], y - d*corner[1]}
}

// foot tells where on its line a side has its foot: 0 is at its first end, 1 at the other one.
func (b body) foot(side int) fraction {
	along := b.along(side)
	return fractionOf(dot(b.inwards(b.hull[side]), along), b.middle[2]*dot(along, along))
}

// height is the lean of a side times the square of D. That factor is the same for all sides, and without it in the denominators fractions can be compared by products in the range of int64 (at most 4 * 10^18).
func (b body) height(side int) fraction {
	along := b.along(side)
	h := int64(cross(along, b.inwards(b.hull[side])))
	return fractionOf(h*h, int64(dot(along, along)))
}
