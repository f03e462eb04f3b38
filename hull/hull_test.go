package hull_test

import (
	"math"
	"math/big"
	"math/rand"
	"slices"
	"testing"

	"careen/api"
	"careen/hull"
)

type list = [][2]int

var (
	square  = list{{0, 0}, {4, 0}, {4, 2}, {0, 2}}
	sliver  = list{{0, 0}, {9, 0}, {1, 1}}
	largest = list{{-20, -20}, {20, -20}, {20, 20}, {-20, 20}}
	twelve  = list{{-5, -10}, {0, -11}, {5, -10}, {9, -6}, {10, 0}, {9, 5}, {5, 9}, {0, 10}, {-5, 9}, {-9, 5}, {-10, 0}, {-9, -6}}
	// Twelve with a corner more, which is as convex.
	thirteen = append(list{{-8, -8}}, twelve...)

	wrongHulls = []list{
		nil, {}, {{0, 0}}, {{0, 0}, {1, 0}}, thirteen,
		{{0, 0}, {0, 2}, {4, 2}, {4, 0}},                         // clockwise
		{{0, 0}, {2, 0}, {4, 0}, {4, 2}},                         // straight on at a corner
		{{0, 0}, {1, 0}, {2, 0}},                                 // on one line
		{{0, 0}, {4, 0}, {2, 1}, {2, 4}},                         // a turn to the right
		{{0, 0}, {4, 0}, {0, 2}, {4, 2}},                         // crosses itself
		{{0, 0}, {0, 0}, {0, 0}},                                 // one point
		{{0, 0}, {4, 0}, {4, 0}, {0, 2}},                         // a point twice
		{{0, 0}, {4, 0}, {0, 2}, {0, 0}},                         // its first one again
		{{0, 0}, {4, 0}, {0, 2}, {0, 0}, {4, 0}, {0, 2}},         // twice round
		{{0, 0}, {4, 0}, {4, 4}, {0, 4}, {0, 0}, {4, 0}, {4, 4}}, // nearly twice round
		{{0, -10}, {6, 8}, {-10, -3}, {10, -3}, {-6, 8}},         // a star
		slices.Repeat(list{{1, 2}}, 12), make(list, 3), make(list, 100),

		// Numbers out of range.
		{{0, 0}, {21, 0}, {0, 1}},
		{{0, 0}, {1, 0}, {0, 21}},
		{{-21, 0}, {0, 0}, {0, 1}},
		{{0, -21}, {1, 0}, {0, 0}},
		{{0, 0}, {1 << 32, 0}, {1 << 32, 1 << 32}, {0, 1 << 32}},
		{{0, 0}, {math.MaxInt, 0}, {0, math.MaxInt}},
		{{math.MinInt, math.MinInt}, {math.MaxInt, 0}, {0, 1}},
	}
)

// examples are hulls of all kinds: those made of a grid, random ones, and the ones at the limits.
func examples() []list {
	all := []list{square, sliver, largest, twelve, {{-20, -20}, {20, 19}, {19, 19}}, {{0, 0}, {1, 0}, {-1, 1}}, {{-20, 20}, {-20, -20}, {20, 20}}}
	for _, corners := range tuples(grid(3), 3) {
		if isHull(corners) {
			all = append(all, corners)
		}
	}
	r := rand.New(rand.NewSource(3))
	for range 1500 {
		if h := hullOf(somePoints(r)); h != nil {
			turn := r.Intn(len(h))
			all = append(all, slices.Concat(h[turn:], h[:turn]))
		}
	}
	return all
}

// grid are the points with numbers from -1 to n - 2.
func grid(n int) list {
	var points list
	for x := range n {
		for y := range n {
			points = append(points, [2]int{x - 1, y - 1})
		}
	}
	return points
}

// tuples are all lists of n of the points.
func tuples(points list, n int) []list {
	all := []list{{}}
	for range n {
		var longer []list
		for _, l := range all {
			for _, p := range points {
				longer = append(longer, append(slices.Clone(l), p))
			}
		}
		all = longer
	}
	return all
}

func somePoints(r *rand.Rand) list {
	most := 1 + r.Intn(20)
	points := make(list, 3+r.Intn(10))
	for i := range points {
		points[i] = [2]int{r.Intn(2*most+1) - most, r.Intn(2*most+1) - most}
	}
	return points
}

// side is greater than 0 if c is to the left of the way from a to b, less if it is to the right.
func side(a, b, c [2]int) int {
	return (b[0]-a[0])*(c[1]-a[1]) - (b[1]-a[1])*(c[0]-a[0])
}

// isHull holds a list against the definition: turns to the left, and once round, which is how often its sides begin to go up.
func isHull(corners list) bool {
	n, rounds := len(corners), 0
	goesUp := func(i int) bool {
		a, b := corners[i%n], corners[(i+1)%n]
		return b[1] > a[1] || b[1] == a[1] && b[0] > a[0]
	}
	for i := range corners {
		if side(corners[i], corners[(i+1)%n], corners[(i+2)%n]) <= 0 {
			return false
		}
		if !goesUp(i) && goesUp(i+1) {
			rounds++
		}
	}
	return n >= 3 && n <= 12 && rounds == 1
}

// hullOf finds the hull of points by its sides, each a pair of points with all others to the left or between them; nil if there is none.
func hullOf(points list) list {
	next := map[[2]int][2]int{}
	for _, a := range points {
		for _, b := range points {
			if isEdge(points, a, b) {
				next[a] = b
			}
		}
	}
	if len(next) < 3 {
		return nil
	}
	least := points[0]
	for _, p := range points {
		if p[0] < least[0] || p[0] == least[0] && p[1] < least[1] {
			least = p
		}
	}
	h := list{least}
	for p := next[least]; p != least; p = next[p] {
		h = append(h, p)
	}
	return h
}

func isEdge(points list, a, b [2]int) bool {
	for _, p := range points {
		between := min(a[0], b[0]) <= p[0] && p[0] <= max(a[0], b[0]) && min(a[1], b[1]) <= p[1] && p[1] <= max(a[1], b[1])
		if s := side(a, b, p); s < 0 || s == 0 && !between {
			return false
		}
	}
	return a != b
}

// P3.1: hulls, and what are none.
func TestCheck(t *testing.T) {
	for _, h := range wrongHulls {
		if e := hull.Check(h); e != api.ErrHull {
			t.Errorf("Check(%v) = %d", h, e)
		}
	}
	for _, h := range examples() {
		if e := hull.Check(h); e != api.OK {
			t.Errorf("Check(%v) = %d", h, e)
		}
	}
}

// P3.1: Check, of all lists of few points of a grid.
func TestCheckAll(t *testing.T) {
	for n := range 6 {
		for _, corners := range tuples(grid(3), n) {
			if e := hull.Check(corners); (e == api.OK) != isHull(corners) || e != api.OK && e != api.ErrHull {
				t.Fatalf("Check(%v) = %d", corners, e)
			}
		}
	}
}

// P3.1: Check, of hulls whose corners come in another order: backwards, as stars, two exchanged, one twice, one left out.
func TestCheckOrders(t *testing.T) {
	expect := func(corners list) {
		t.Helper()
		if e := hull.Check(corners); (e == api.OK) != isHull(corners) {
			t.Errorf("Check(%v) = %d", corners, e)
		}
	}
	stars := 0
	for _, h := range examples() {
		n := len(h)
		for step := range n {
			star := make(list, n)
			for i := range star {
				star[i] = h[i*step%n]
			}
			expect(star)
			if step > 1 && step < n-1 && n%step != 0 {
				stars++
			}
		}
		for i := range h {
			other := slices.Clone(h)
			other[i], other[0] = other[0], other[i]
			expect(other)
			expect(slices.Insert(slices.Clone(h), i, h[0]))
			expect(slices.Delete(slices.Clone(h), i, i+1))
		}
	}
	if stars < 1000 {
		t.Errorf("only %d stars", stars)
	}
}

// calls are all functions that take a hull; those of a side get this one. Each tells whether its results are zero values, and its error.
func calls(h list, side int) map[string]func() (bool, api.Errno) {
	one := func(n int, e api.Errno) (bool, api.Errno) { return n == 0, e }
	many := func(l []int, e api.Errno) (bool, api.Errno) { return len(l) == 0, e }
	return map[string]func() (bool, api.Errno){
		"Check":  func() (bool, api.Errno) { return true, hull.Check(h) },
		"Area":   func() (bool, api.Errno) { return one(hull.Area(h)) },
		"Middle": func() (bool, api.Errno) { m, e := hull.Middle(h); return m == [3]int{}, e },
		"Rests":  func() (bool, api.Errno) { return many(hull.Rests(h)) },
		"Firm":   func() (bool, api.Errno) { return many(hull.Firm(h)) },
		"Tips":   func() (bool, api.Errno) { return many(hull.Tips(h)) },
		"Roll":   func() (bool, api.Errno) { return many(hull.Roll(h, side)) },
		"Lean":   func() (bool, api.Errno) { l, e := hull.Lean(h, side); return l == [2]int64{}, e },
		"Lowest": func() (bool, api.Errno) { return one(hull.Lowest(h)) },
		"Turned": func() (bool, api.Errno) { l, e := hull.Turned(h); return len(l) == 0, e },
	}
}

// P3.1: all functions that take a hull return ErrHull first, with zero values beside it.
func TestWrongHulls(t *testing.T) {
	for _, h := range wrongHulls {
		for _, side := range []int{0, 1, -1, len(h), math.MinInt, math.MaxInt} {
			for name, call := range calls(h, side) {
				if zero, e := call(); !zero || e != api.ErrHull {
					t.Errorf("%s of %v, side %d: zero values %t, error %d", name, h, side, zero, e)
				}
			}
		}
	}
}

// P3.1: then ErrArg if a side is none; the sides from 0 to one less than the number of corners are.
func TestSides(t *testing.T) {
	for _, h := range examples() {
		for _, name := range []string{"Roll", "Lean"} {
			for _, side := range []int{-1, len(h), len(h) + 1, math.MinInt, math.MaxInt} {
				if zero, e := calls(h, side)[name](); !zero || e != api.ErrArg {
					t.Errorf("%s of %v, side %d: zero values %t, error %d", name, h, side, zero, e)
				}
			}
			for side := range h {
				if _, e := calls(h, side)[name](); e != api.OK {
					t.Errorf("%s of %v, side %d: error %d", name, h, side, e)
				}
			}
		}
	}
}

// P3.1: Area, against Pick's theorem: the area twice is twice the points inside, and those at the sides less two.
func TestArea(t *testing.T) {
	for _, h := range examples() {
		inside, around := 0, 0
		for x := -20; x <= 20; x++ {
			for y := -20; y <= 20; y++ {
				least := math.MaxInt
				for i := range h {
					least = min(least, side(h[i], h[(i+1)%len(h)], [2]int{x, y}))
				}
				if least > 0 {
					inside++
				} else if least == 0 {
					around++
				}
			}
		}
		if got, e := hull.Area(h); got != 2*inside+around-2 || e != api.OK {
			t.Errorf("Area(%v) = %d, %d, not %d", h, got, e, 2*inside+around-2)
		}
	}
	if got, e := hull.Area(square); got != 16 || e != api.OK {
		t.Errorf("Area = %d, %d", got, e)
	}
}

func frac(a, b int) *big.Rat { return big.NewRat(int64(a), int64(b)) }

func add(a, b *big.Rat) *big.Rat { return new(big.Rat).Add(a, b) }

func sub(a, b *big.Rat) *big.Rat { return new(big.Rat).Sub(a, b) }

func mul(a, b *big.Rat) *big.Rat { return new(big.Rat).Mul(a, b) }

func quo(a, b *big.Rat) *big.Rat { return new(big.Rat).Quo(a, b) }

// point is one whose numbers are fractions.
type point struct{ x, y *big.Rat }

func pointOf(p [2]int) point { return point{frac(p[0], 1), frac(p[1], 1)} }

// apart is the square of the distance of two points.
func apart(a, b point) *big.Rat {
	x, y := sub(a.x, b.x), sub(a.y, b.y)
	return add(mul(x, x), mul(y, y))
}

// middleOf is the middle of the triangles into which a hull is cut from its first corner.
func middleOf(h list) point {
	x, y, all := new(big.Rat), new(big.Rat), new(big.Rat)
	for i := 1; i+1 < len(h); i++ {
		a, b, c := h[0], h[i], h[i+1]
		area := frac(side(a, b, c), 1)
		x = add(x, mul(area, frac(a[0]+b[0]+c[0], 3)))
		y = add(y, mul(area, frac(a[1]+b[1]+c[1], 3)))
		all = add(all, area)
	}
	return point{quo(x, all), quo(y, all)}
}

// P3.1: Middle, its D greater than 0, no number greater than 1 dividing all three.
func TestMiddle(t *testing.T) {
	for _, h := range examples() {
		got, e := hull.Middle(h)
		if e != api.OK || got[2] <= 0 {
			t.Fatalf("Middle(%v) = %v, %d", h, got, e)
		}
		want := middleOf(h)
		if frac(got[0], got[2]).Cmp(want.x) != 0 || frac(got[1], got[2]).Cmp(want.y) != 0 {
			t.Errorf("Middle(%v) = %v, not %v", h, got, want)
		}
		for g := 2; g <= got[2]; g++ {
			if got[0]%g == 0 && got[1]%g == 0 && got[2]%g == 0 {
				t.Errorf("Middle(%v) = %v, all divided by %d", h, got, g)
			}
		}
	}
	for _, x := range []struct {
		h    list
		want [3]int
	}{
		{square, [3]int{2, 1, 1}},
		{sliver, [3]int{10, 1, 3}},
		{largest, [3]int{0, 0, 1}},
		{list{{0, 0}, {1, 0}, {1, 1}, {0, 1}}, [3]int{1, 1, 2}},
		{list{{-2, -2}, {-1, -2}, {-1, -1}, {-2, -1}}, [3]int{-3, -3, 2}},
	} {
		if got, e := hull.Middle(x.h); got != x.want || e != api.OK {
			t.Errorf("Middle(%v) = %v, %d, not %v", x.h, got, e, x.want)
		}
	}
}

// R4: no call changes its list or reads behind its end, and results are new memory.
func TestMemory(t *testing.T) {
	for _, h := range []list{square, sliver, twelve} {
		n := len(h)
		long := append(slices.Clone(h), [2]int{99, 99}, [2]int{0, 0})
		kept := slices.Clone(long)
		for side := range h {
			for name, call := range calls(long[:n], side) {
				if _, e := call(); e != api.OK {
					t.Errorf("%s of %v: %d", name, h, e)
				}
			}
		}
		around, e := hull.Around(long[:n])
		if e != api.OK || !slices.Equal(long, kept) {
			t.Fatalf("Around of %v: %d, the list then %v", h, e, long)
		}
		turned, e := hull.Turned(long[:n])
		if e != api.OK {
			t.Fatalf("Turned of %v: %d", h, e)
		}
		again := slices.Clone(turned)
		for i := range h {
			around[i], turned[i] = [2]int{7, 7}, [2]int{8, 8}
		}
		if !slices.Equal(long, kept) {
			t.Errorf("%v shares memory with a result", h)
		}
		if got, _ := hull.Turned(h); !slices.Equal(got, again) {
			t.Errorf("Turned(%v) = %v, not %v", h, got, again)
		}
	}
}
