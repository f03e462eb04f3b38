package berth

import (
	"cmp"
	"math/bits"

	"careen/api"
)

const (
	mostMiddle = 1_000_000         // X, Y and D of a circle go up to mostMiddle, X and Y from -mostMiddle on
	mostRadius = 1_000_000_000_000 // the greatest R
)

// Circle is a circle: its middle is (X / D, Y / D) in lowest terms, and the square of its radius R / D^2. So circles are the same if they are equal structs.
type Circle struct {
	X, Y, D, R int
}

// CheckCircle returns ErrArg if c is not a circle, or its numbers are too great.
func CheckCircle(c Circle) api.Errno {
	if min(c.X, c.Y) < -mostMiddle || max(c.X, c.Y, c.D) > mostMiddle || c.D < 1 {
		return api.ErrArg
	}
	if c.R < 0 || c.R > mostRadius || gcd(c.X, c.Y, c.D) > 1 {
		return api.ErrArg
	}
	return api.OK
}

// Where returns -1 if the point is inside the circle, 0 if it is on it, otherwise 1.
func Where(c Circle, p [2]int) (int, api.Errno) {
	if e := CheckCircle(c); e != api.OK {
		return 0, e
	}
	if e := checkPairs(p); e != api.OK {
		return 0, e
	}
	return c.where(p), api.OK
}

// On returns the indices of the points on the circle, rising.
func On(points [][2]int, c Circle) ([]int, api.Errno) {
	if e := checkAll(points, c); e != api.OK {
		return nil, e
	}
	return which(points, func(p [2]int) bool { return c.where(p) == 0 }), api.OK
}

// Compare returns -1, 0 or 1, as the radius of a is less than, equal to or greater than that of b.
func Compare(a, b Circle) (int, api.Errno) {
	for _, c := range [...]Circle{a, b} {
		if e := CheckCircle(c); e != api.OK {
			return 0, e
		}
	}
	return a.compare(b), api.OK
}

// Over returns the circle with a and b at the ends of a diameter.
func Over(a, b [2]int) (Circle, api.Errno) {
	if e := checkPairs(a, b); e != api.OK {
		return Circle{}, e
	}
	return over(a, b), api.OK
}

// Through returns the circle through three points, or ErrNone if they are on one line.
func Through(a, b, c [2]int) (Circle, api.Errno) {
	if e := checkPairs(a, b, c); e != api.OK {
		return Circle{}, e
	}
	circle, ok := through(a, b, c)
	if !ok {
		return Circle{}, api.ErrNone
	}
	return circle, api.OK
}

// checkAll checks the points, and then the circle.
func checkAll(points [][2]int, c Circle) api.Errno {
	if e := Check(points); e != api.OK {
		return e
	}
	return CheckCircle(c)
}

func (c Circle) where(p [2]int) int {
	return cmp.Compare(c.apart(p), c.R)
}

// apart is the square of the distance of a point from the middle, times D^2 as R is.
func (c Circle) apart(p [2]int) int {
	return sumOfSquares(p[0]*c.D-c.X, p[1]*c.D-c.Y)
}

func (c Circle) compare(other Circle) int {
	// These products can be as great as 10^24, which 64 bits do not hold.
	high, low := bits.Mul64(uint64(c.R), uint64(other.D*other.D))
	otherHigh, otherLow := bits.Mul64(uint64(other.R), uint64(c.D*c.D))
	return cmp.Or(cmp.Compare(high, otherHigh), cmp.Compare(low, otherLow))
}

// round is the circle with the middle (x / d, y / d) that has the point on it; d must not be 0.
func round(x, y, d int, on [2]int) Circle {
	g := gcd(x, y, d)
	if d < 0 {
		g = -g
	}
	c := Circle{X: x / g, Y: y / g, D: d / g}
	c.R = c.apart(on)
	return c
}

func over(a, b [2]int) Circle {
	return round(a[0]+b[0], a[1]+b[1], 2, a)
}

// through is the circle through three points, if they are not on one line.
func through(a, b, c [2]int) (Circle, bool) {
	p, q := minus(b, a), minus(c, a)
	d := 2 * cross(p, q)
	if d == 0 {
		return Circle{}, false
	}
	// The way from a to the middle, d times as long, is as far along p as along q: half the square of each.
	pp, qq := sumOfSquares(p[:]...), sumOfSquares(q[:]...)
	x, y := q[1]*pp-p[1]*qq, p[0]*qq-q[0]*pp
	return round(d*a[0]+x, d*a[1]+y, d, a), true
}

// gcd is the greatest number that divides all, which must not all be 0.
func gcd(numbers ...int) int {
	a := 0
	for _, b := range numbers {
		for b != 0 {
			a, b = b, a%b
		}
	}
	return max(a, -a)
}
