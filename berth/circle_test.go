package berth_test

import (
	"math/big"
	"math/rand"
	"slices"
	"testing"

	"careen/api"
	"careen/berth"
)

func frac(a, b int) *big.Rat { return big.NewRat(int64(a), int64(b)) }

// apart is the square of the distance of a point from the middle of a circle.
func apart(c circle, p [2]int) *big.Rat {
	sum := new(big.Rat)
	for i, middle := range []int{c.X, c.Y} {
		way := new(big.Rat).Sub(frac(p[i], 1), frac(middle, c.D))
		sum.Add(sum, way.Mul(way, way))
	}
	return sum
}

// radius is the square of the radius of a circle.
func radius(c circle) *big.Rat {
	return new(big.Rat).Quo(frac(c.R, 1), new(big.Rat).Mul(frac(c.D, 1), frac(c.D, 1)))
}

// isThrough tells whether c is a circle that has all these on it.
func isThrough(c circle, points ...[2]int) bool {
	for _, p := range points {
		if apart(c, p).Cmp(radius(c)) != 0 {
			return false
		}
	}
	return berth.CheckCircle(c) == api.OK
}

// P4.1: circles, and what are none: D less than 1, R less than 0, a common divisor of X, Y and D, and numbers too great.
func TestCheckCircle(t *testing.T) {
	for _, c := range wrongCircles {
		if e := berth.CheckCircle(c); e != api.ErrArg {
			t.Errorf("CheckCircle(%v) = %d", c, e)
		}
	}
	for _, c := range rightCircles {
		if e := berth.CheckCircle(c); e != api.OK {
			t.Errorf("CheckCircle(%v) = %d", c, e)
		}
	}
	for x := -6; x <= 6; x++ {
		for y := -6; y <= 6; y++ {
			for d := -1; d <= 6; d++ {
				want := api.OK
				for g := 2; g <= 6; g++ {
					if x%g == 0 && y%g == 0 && d%g == 0 {
						want = api.ErrArg
					}
				}
				if d < 1 {
					want = api.ErrArg
				}
				// R may have a divisor in common with them.
				for _, r := range []int{0, 1, 36, 60} {
					if e := berth.CheckCircle(circle{x, y, d, r}); e != want {
						t.Errorf("CheckCircle(%d, %d, %d, %d) = %d", x, y, d, r, e)
					}
				}
			}
		}
	}
}

// P4.1: Where, of points inside, on and outside.
func TestWhere(t *testing.T) {
	for _, x := range []struct {
		c    circle
		p    [2]int
		want int
	}{
		{circle{2, 0, 1, 4}, [2]int{2, 1}, -1},
		{circle{2, 0, 1, 4}, [2]int{2, 2}, 0},
		{circle{2, 0, 1, 4}, [2]int{3, 2}, 1},
		{circle{12, 5, 6, 169}, [2]int{2, 3}, 0},
		{circle{12, 5, 6, 168}, [2]int{2, 3}, 1},
		{circle{12, 5, 6, 170}, [2]int{2, 3}, -1},
		{circle{5, 5, 1, 0}, [2]int{5, 5}, 0},
		{circle{5, 5, 1, 0}, [2]int{5, 6}, 1},
		{circle{1_000_000, -1_000_000, 1, 1_000_000_000_000}, [2]int{20, -20}, 1},
		{circle{1_000_000, 1, 1_000_000, 1_000_000_000_000}, [2]int{1, 1}, -1},
		{circle{1, 0, 1_000_000, 1}, [2]int{0, 0}, 0},
	} {
		if got, e := berth.Where(x.c, x.p); got != x.want || e != api.OK {
			t.Errorf("Where(%v, %v) = %d, %d, not %d", x.c, x.p, got, e, x.want)
		}
	}
	for _, c := range slices.Concat(rightCircles, someCircles()) {
		for x := -20; x <= 20; x += 5 {
			for y := -20; y <= 20; y += 4 {
				p := [2]int{x, y}
				want := apart(c, p).Cmp(radius(c))
				if got, e := berth.Where(c, p); got != want || e != api.OK {
					t.Errorf("Where(%v, %v) = %d, %d, not %d", c, p, got, e, want)
				}
			}
		}
	}
}

// someCircles are random ones, many of the greatest ones among them.
func someCircles() []circle {
	r := rand.New(rand.NewSource(41))
	var all []circle
	for len(all) < 200 {
		c := circle{r.Intn(401) - 200, r.Intn(401) - 200, 1 + r.Intn(20), r.Intn(100_000)}
		if len(all)%2 == 0 {
			c = circle{r.Intn(2_000_001) - 1_000_000, r.Intn(2_000_001) - 1_000_000, 1_000_000 - r.Intn(5), 1_000_000_000_000 - r.Intn(10_000_000)}
		}
		if berth.CheckCircle(c) == api.OK {
			all = append(all, c)
		}
	}
	return all
}

// P4.1: Compare, also of radii whose products are too great for 64 bits, and which differ by little.
func TestCompare(t *testing.T) {
	for _, x := range []struct {
		a, b circle
		want int
	}{
		{circle{0, 0, 1, 4}, circle{7, 7, 1, 5}, -1},
		{circle{0, 0, 1, 4}, circle{1, 0, 2, 16}, 0},
		{circle{0, 0, 1, 4}, circle{1, 0, 2, 15}, 1},
		{circle{0, 0, 1, 0}, circle{1, 0, 1_000_000, 0}, 0},
		{circle{0, 0, 1, 0}, circle{1, 0, 1_000_000, 1}, -1},
		{circle{1, 0, 1_000_000, 1_000_000_000_000}, circle{0, 0, 1, 1}, 0},
		{circle{0, 0, 1, 1_000_000_000_000}, circle{1, 0, 1_000_000, 1}, 1},
		{circle{1, 0, 1_000_000, 1_000_000_000_000}, circle{1, 0, 999_999, 999_998_000_001}, 0},
		{circle{1, 0, 1_000_000, 1_000_000_000_000}, circle{1, 0, 999_999, 999_998_000_000}, 1},
		{circle{1, 0, 1_000_000, 999_999_999_999}, circle{1, 0, 999_999, 999_998_000_001}, -1},
		{circle{0, 0, 1, 18_446_744}, circle{1, 0, 1_000_000, 73_709_551_616}, 1},
		// Products that differ by 1.
		{circle{1, 0, 1_000_000, 999_997_999_999}, circle{1, 0, 999_999, 999_996_000_004}, -1},
		{circle{1, 0, 1_000_000, 2_000_001}, circle{1, 0, 999_999, 1_999_997}, 1},
	} {
		if got, e := berth.Compare(x.a, x.b); got != x.want || e != api.OK {
			t.Errorf("Compare(%v, %v) = %d, %d, not %d", x.a, x.b, got, e, x.want)
		}
	}
	all := slices.Concat(rightCircles, someCircles())
	for _, a := range all {
		for _, b := range all {
			want := radius(a).Cmp(radius(b))
			if got, e := berth.Compare(a, b); got != want || e != api.OK {
				t.Errorf("Compare(%v, %v) = %d, %d, not %d", a, b, got, e, want)
			}
		}
	}
}

// P4.1: On, of circles with some of the points on them, and with none.
func TestOn(t *testing.T) {
	for _, points := range examples() {
		smallest, e := berth.Smallest(points)
		if e != api.OK {
			t.Fatalf("Smallest(%v): %d", points, e)
		}
		for _, c := range []circle{smallest, {0, 0, 1, 1}, {0, 0, 1, 25}, {1, 1, 2, 2}, {0, 0, 1, 2}, {100, 0, 1, 3}} {
			var want []int
			for i, p := range points {
				if apart(c, p).Cmp(radius(c)) == 0 {
					want = append(want, i)
				}
			}
			if got, e := berth.On(points, c); !slices.Equal(got, want) || e != api.OK {
				t.Errorf("On(%v, %v) = %v, %d, not %v", points, c, got, e, want)
			}
		}
	}
	if got, e := berth.On(wheel, circle{0, 0, 1, 25}); len(got) != 12 || e != api.OK {
		t.Errorf("On = %v, %d", got, e)
	}
}

// P4.2: Over, also of a point with itself.
func TestOver(t *testing.T) {
	for _, x := range []struct {
		a, b [2]int
		want circle
	}{
		{[2]int{0, 0}, [2]int{4, 0}, circle{2, 0, 1, 4}},
		{[2]int{0, 0}, [2]int{1, 0}, circle{1, 0, 2, 1}},
		{[2]int{0, 1}, [2]int{1, 2}, circle{1, 3, 2, 2}},
		{[2]int{3, -3}, [2]int{-3, 3}, circle{0, 0, 1, 18}},
		{[2]int{-3, -4}, [2]int{-4, -4}, circle{-7, -8, 2, 1}},
		{[2]int{7, -9}, [2]int{7, -9}, circle{7, -9, 1, 0}},
		{[2]int{0, 0}, [2]int{0, 0}, circle{0, 0, 1, 0}},
		{[2]int{-20, -20}, [2]int{20, 20}, circle{0, 0, 1, 800}},
	} {
		for _, ends := range []list{{x.a, x.b}, {x.b, x.a}} {
			if got, e := berth.Over(ends[0], ends[1]); got != x.want || e != api.OK {
				t.Errorf("Over(%v) = %v, %d, not %v", ends, got, e, x.want)
			}
		}
	}
	for _, points := range examples() {
		for i, a := range points {
			b := points[i/2]
			c, e := berth.Over(a, b)
			// The ends of a diameter are as far apart as two points on the circle can be.
			if diameter := new(big.Rat).Mul(frac(4, 1), radius(c)); e != api.OK || !isThrough(c, a, b) || diameter.Cmp(frac(squared(a, b), 1)) != 0 {
				t.Errorf("Over(%v, %v) = %v, %d", a, b, c, e)
			}
		}
	}
}

// P4.2: Through, whatever the order of the points, and ErrNone if there is no such circle.
func TestThrough(t *testing.T) {
	for _, x := range []struct {
		points [3][2]int
		want   circle
		e      api.Errno
	}{
		{[3][2]int{{0, 0}, {2, 0}, {0, 2}}, circle{1, 1, 1, 2}, api.OK},
		{[3][2]int{{0, 0}, {4, 0}, {2, 3}}, circle{12, 5, 6, 169}, api.OK},
		{[3][2]int{{5, 0}, {-3, -4}, {4, 3}}, circle{0, 0, 1, 25}, api.OK},
		{[3][2]int{{0, 0}, {1, 0}, {0, 1}}, circle{1, 1, 2, 2}, api.OK},
		{[3][2]int{{-20, -20}, {20, 19}, {19, 18}}, circle{-3003, 3079, 2, 18507530}, api.OK},
		{[3][2]int{{0, 0}, {1, 1}, {2, 2}}, circle{}, api.ErrNone},
		{[3][2]int{{-20, 7}, {20, 7}, {3, 7}}, circle{}, api.ErrNone},
		{[3][2]int{{5, -20}, {5, 7}, {5, 3}}, circle{}, api.ErrNone},
		{[3][2]int{{0, 0}, {0, 0}, {2, 1}}, circle{}, api.ErrNone},
		{[3][2]int{{1, 1}, {1, 1}, {1, 1}}, circle{}, api.ErrNone},
	} {
		for _, i := range [][3]int{{0, 1, 2}, {0, 2, 1}, {1, 0, 2}, {1, 2, 0}, {2, 0, 1}, {2, 1, 0}} {
			a, b, c := x.points[i[0]], x.points[i[1]], x.points[i[2]]
			if got, e := berth.Through(a, b, c); got != x.want || e != x.e {
				t.Errorf("Through(%v, %v, %v) = %v, %d, not %v, %d", a, b, c, got, e, x.want, x.e)
			}
		}
	}
	r := rand.New(rand.NewSource(42))
	for range 3000 {
		most := 1 + r.Intn(20)
		var p [3][2]int
		for i := range p {
			p[i] = [2]int{r.Intn(2*most+1) - most, r.Intn(2*most+1) - most}
		}
		c, e := berth.Through(p[0], p[1], p[2])
		if side(p[0], p[1], p[2]) == 0 {
			if c != (circle{}) || e != api.ErrNone {
				t.Errorf("Through(%v) = %v, %d", p, c, e)
			}
		} else if e != api.OK || !isThrough(c, p[:]...) {
			t.Errorf("Through(%v) = %v, %d", p, c, e)
		}
	}
}
