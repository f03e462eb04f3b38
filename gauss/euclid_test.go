package gauss_test

import (
	"math/rand"
	"testing"

	"careen/api"
	"careen/gauss"
)

// P7.2: Divides is right when a Gaussian integer makes one of the other.
func TestDivides(t *testing.T) {
	for _, x := range square(4) {
		multiples := map[number]bool{}
		for _, z := range square(8) {
			multiples[times(x, z)] = true
		}
		for _, y := range square(5) {
			if is, e := gauss.Divides(x, y); is != multiples[y] || e != api.OK {
				t.Errorf("Divides(%v, %v) = %t, %d", x, y, is, e)
			}
		}
	}
}

// P7.2: Divides of great numbers, 0 and units.
func TestDividesGreat(t *testing.T) {
	r := rand.New(rand.NewSource(72))
	for _, x := range some(r, 200, 100) {
		for _, z := range some(r, 50, 140) {
			y := times(x, z)
			for _, more := range append(unitList, number{}) {
				near := plus(y, more)
				want := near == y || x != number{} && isMultiple(near, x)
				if is, e := gauss.Divides(x, near); is != want || e != api.OK {
					t.Errorf("Divides(%v, %v) = %t, %d", x, near, is, e)
				}
			}
		}
	}
	for _, x := range some(r, 50, most) {
		for _, y := range append(unitList, number{}, x, number{-x[1], x[0]}) {
			up, e := gauss.Divides(x, y)
			down, f := gauss.Divides(y, x)
			if up != (norm(y) == 0 || norm(y) == norm(x)) || down != (norm(y) != 0) || e != api.OK || f != api.OK {
				t.Errorf("%v and %v: %t, %t, %d, %d", x, y, up, down, e, f)
			}
		}
	}
	if is, e := gauss.Divides(number{}, number{}); !is || e != api.OK {
		t.Errorf("0 and 0: %t, %d", is, e)
	}
}

// dividers are the numbers that divide x, which is not 0, of those with parts of at most size.
func dividers(x number, size int) map[number]bool {
	all := map[number]bool{}
	for _, d := range square(size) {
		if (d != number{}) && isMultiple(x, d) {
			all[d] = true
		}
	}
	return all
}

// P7.2: Gcd divides both, and all that divide both divide it.
func TestGcd(t *testing.T) {
	const size = 4
	known := map[number]map[number]bool{}
	for _, x := range square(size) {
		if (x != number{}) {
			known[x] = dividers(x, 6)
		}
	}
	for _, x := range square(size) {
		for _, y := range square(size) {
			g, e := gauss.Gcd(x, y)
			if !isFirst(g) || e != api.OK || (g == number{}) != (x == number{} && y == number{}) {
				t.Errorf("Gcd(%v, %v) = %v, %d", x, y, g, e)
			}
			if (g == number{}) {
				continue
			}
			for _, d := range square(6) {
				both := (x == number{} || known[x][d]) && (y == number{} || known[y][d])
				if both != ((d != number{}) && isMultiple(g, d)) {
					t.Errorf("Gcd(%v, %v) = %v, and %v", x, y, g, d)
				}
			}
		}
	}
	if g, e := gauss.Gcd(number{4, 2}, number{3, 1}); g != (number{1, 1}) || e != api.OK {
		t.Errorf("the example: %v, %d", g, e)
	}
}

// P7.2: Gcd of numbers with a great number in common is a multiple of it, and no matter in which order or turned.
func TestGcdCommon(t *testing.T) {
	r := rand.New(rand.NewSource(721))
	for _, d := range some(r, 100, 150) {
		for range 20 {
			x, y := times(d, some(r, 1, 99)[8]), times(d, some(r, 1, 99)[8])
			g, e := gauss.Gcd(x, y)
			h, f := gauss.Gcd(times(y, unitList[r.Intn(4)]), times(x, unitList[r.Intn(4)]))
			if g != h || !isFirst(g) || e != api.OK || f != api.OK {
				t.Errorf("%v and %v: %v, %v, %d, %d", x, y, g, h, e, f)
			}
			if (g != number{}) && (!isMultiple(g, d) || !isMultiple(x, g) || !isMultiple(y, g)) {
				t.Errorf("%v and %v, with %v: %v", x, y, d, g)
			}
		}
	}
	for _, x := range some(r, 100, most) {
		first, _, _ := gauss.First(x)
		for _, y := range []number{{}, x, {-x[1], x[0]}} {
			g, e := gauss.Gcd(x, y)
			h, f := gauss.Gcd(y, x)
			if g != first || h != first || e != api.OK || f != api.OK {
				t.Errorf("%v and %v: %v, %v, %d, %d", x, y, g, h, e, f)
			}
		}
	}
}

// bezoutHolds tells whether Bezout gives the Gcd as u x + v y, all in range.
func bezoutHolds(x, y number) bool {
	want, _ := gauss.Gcd(x, y)
	g, u, v, e := gauss.Bezout(x, y)
	return g == want && plus(times(u, x), times(v, y)) == g && inRange(u, v) && e == api.OK
}

// P7.2: Bezout makes the Gcd of both.
func TestBezout(t *testing.T) {
	r := rand.New(rand.NewSource(722))
	pairs := func(f, g []number) {
		for _, x := range f {
			for _, y := range g {
				if !bezoutHolds(x, y) {
					g, u, v, e := gauss.Bezout(x, y)
					t.Errorf("Bezout(%v, %v) = %v, %v, %v, %d", x, y, g, u, v, e)
				}
			}
		}
	}
	pairs(square(6), square(6))
	pairs(some(r, 300, most), some(r, 300, most))
	pairs(some(r, 100, most), square(4))
	pairs(square(4), some(r, 100, most))
	for range 20 {
		d := some(r, 1, 50)[8]
		pairs([]number{times(d, some(r, 1, 250)[8])}, []number{times(d, some(r, 1, 250)[8]), {}, d})
	}
}

// P7.2: u and v stay in range for numbers with the greatest norms, where they are greatest.
func TestBezoutLimits(t *testing.T) {
	var corner []number
	for a := range 12 {
		for b := range 12 {
			corner = append(corner, number{most - a, b - most}, number{a - most, most - b})
		}
	}
	for i, x := range corner {
		for _, y := range corner[i:] {
			if !bezoutHolds(x, y) {
				g, u, v, e := gauss.Bezout(x, y)
				t.Errorf("Bezout(%v, %v) = %v, %v, %v, %d", x, y, g, u, v, e)
			}
		}
	}
}
