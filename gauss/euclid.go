package gauss

import "careen/api"

// Divides returns whether x divides y.
func Divides(x, y [2]int) (bool, api.Errno) {
	if e := check(x, y); e != api.OK {
		return false, e
	}
	return divides(x, y), api.OK
}

// Gcd returns the greatest number that divides both, the first of its associates.
func Gcd(x, y [2]int) ([2]int, api.Errno) {
	if e := check(x, y); e != api.OK {
		return number{}, e
	}
	g, _ := firstOf(euclid(x, y, isZero, rest))
	return g, api.OK
}

// Bezout returns the greatest number g that divides both, and numbers u and v with u x + v y = g.
func Bezout(x, y [2]int) (g, u, v [2]int, e api.Errno) {
	if e := check(x, y); e != api.OK {
		return number{}, number{}, number{}, e
	}
	g, u, v = bezout(x, y)
	return g, u, v, api.OK
}

func isZero(x number) bool {
	return x == number{}
}

func divides(x, y number) bool {
	if isZero(x) {
		return isZero(y)
	}
	return isZero(rest(y, x))
}

// euclid goes on from x and y, each next one being the rest of the last but one by the last one, as far as to 0; it is the one before that.
func euclid[T any](x, y T, ends func(T) bool, rest func(x, y T) T) T {
	for !ends(y) {
		x, y = y, rest(x, y)
	}
	return x
}

// bezout is the g of x and y, and u and v with u x + v y = g, all of them numbers with parts in range.
func bezout(x, y number) (g, u, v number) {
	// A sum is its value, and how often x is in it; the others in it are multiples of y.
	type sum struct{ value, ofX number }
	last := euclid(sum{x, number{1, 0}}, sum{y, number{}},
		func(s sum) bool { return isZero(s.value) },
		func(s, t sum) sum {
			q, r := divide(s.value, t.value)
			return sum{r, minus(s.ofX, times(q, t.ofX))}
		})
	g, unit := firstOf(last.value)
	u = times(last.ofX, conjugate(unit))
	if isZero(y) {
		return g, u, v
	}
	// Any other u that leaves the same rest by y / g has a v, too. The rest itself is at most |y / g| / root 2, so |v| is at most |x / g| / root 2 + |g / y|, which is in range; and if y / g is a unit, the rest is 0, and v a unit.
	u = rest(u, quotient(y, g))
	return g, u, quotient(minus(g, times(u, x)), y)
}
