package berth_test

import (
	"math"
	"math/rand"
	"slices"
	"testing"

	"careen/api"
	"careen/berth"
)

type (
	list   = [][2]int
	circle = berth.Circle
)

var (
	square = list{{0, 0}, {2, 0}, {0, 2}, {2, 2}}
	// Twelve points on one circle.
	wheel = list{{5, 0}, {4, 3}, {3, 4}, {0, 5}, {-3, 4}, {-4, 3}, {-5, 0}, {-4, -3}, {-3, -4}, {0, -5}, {3, -4}, {4, -3}}

	wrongPoints = []list{
		nil, {}, append(slices.Clone(wheel), [2]int{0, 0}), make(list, 13), make(list, 100),
		{{0, 0}, {0, 0}}, {{1, 2}, {3, 4}, {1, 2}}, {{1, 2}, {3, 4}, {5, 6}, {5, 6}}, make(list, 12),
		{{21, 0}}, {{0, 21}}, {{-21, 0}}, {{0, -21}}, {{0, 0}, {1, 0}, {20, -21}}, {{0, 0}, {21, 20}, {1, 0}},
		{{math.MaxInt, 0}}, {{0, math.MinInt}}, {{math.MinInt, math.MinInt}, {0, 0}}, {{1 << 32, 0}, {0, 0}},
	}

	wrongCircles = []circle{
		{}, {1, 2, 0, 0}, {1, 2, -1, 5}, {1, 2, 1, -1}, {0, 0, -1, 1},
		{0, 0, 2, 4}, {2, 4, 2, 0}, {3, -6, 9, 18}, {-10, 0, 5, 25}, {0, -7, 7, 49}, {0, 0, 1_000_000, 1},
		{1_000_001, 0, 1, 1}, {-1_000_001, 0, 1, 1}, {0, 1_000_001, 1, 1}, {0, -1_000_001, 1, 1}, {1, 0, 1_000_001, 1},
		{0, 0, 1, 1_000_000_000_001}, {0, 0, 1, math.MaxInt}, {0, 0, 1, math.MinInt}, {1, 1, math.MinInt, 1}, {1, 1, math.MaxInt, 1},
		{math.MinInt, 1, 1, 1}, {1, math.MaxInt, 1, 1}, {math.MinInt, math.MinInt, math.MinInt, math.MinInt},
	}

	wrongPairs = list{{21, 0}, {0, 21}, {-21, 0}, {0, -21}, {math.MaxInt, 0}, {math.MinInt, 5}, {5, math.MinInt}, {0, math.MaxInt}}

	rightCircles = []circle{
		{0, 0, 1, 0}, {0, 0, 1, 1}, {2, 0, 1, 4}, {12, 5, 6, 169}, {1, 1, 2, 2}, {4, 0, 3, 4}, {0, -4, 5, 25}, {-20, 20, 1, 3200},
		{1_000_000, -1_000_000, 999_999, 1_000_000_000_000}, {-1_000_000, 1_000_000, 1, 0}, {1, 0, 1_000_000, 1_000_000_000_000}, {0, 1, 1_000_000, 999_999_999_999},
	}
)

// examples are points of all kinds: all choices of a grid, random ones, and the ones at the limits.
func examples() []list {
	all := []list{
		{{0, 0}, {4, 0}}, {{0, 0}, {4, 0}, {1, 1}}, {{0, 0}, {4, 0}, {2, 3}}, square, wheel, append(slices.Clone(wheel[1:]), [2]int{0, 0}),
		{{20, -20}}, {{-20, -20}, {20, 20}}, {{-20, -20}, {20, 19}, {19, 18}}, {{-20, -20}, {20, 20}, {19, 18}, {-20, 20}}, {{-20, 20}, {0, 1}, {20, -19}, {1, 0}},
		{{-2, -2}, {-1, -1}, {0, 0}, {1, 1}, {2, 2}, {5, 5}}, {{3, 1}, {3, -20}, {3, 20}, {3, 0}},
	}
	for chosen := 1; chosen < 1<<9; chosen++ {
		var points list
		for i := range 9 {
			if chosen>>i&1 == 1 {
				points = append(points, [2]int{i/3 - 1, i%3 - 1})
			}
		}
		all = append(all, points)
	}
	r := rand.New(rand.NewSource(4))
	for range 600 {
		all = append(all, somePoints(r))
	}
	return all
}

// somePoints are different ones in a random order, near one another or far apart.
func somePoints(r *rand.Rand) list {
	var points list
	most := 2 + r.Intn(19)
	for range 1 + r.Intn(12) {
		p := [2]int{r.Intn(2*most+1) - most, r.Intn(2*most+1) - most}
		if !slices.Contains(points, p) {
			points = append(points, p)
		}
	}
	return points
}

// choices are all rising lists of k of n indices.
func choices(n, k int) [][]int {
	if k == 0 {
		return [][]int{nil}
	}
	var all [][]int
	for last := range n {
		for _, begin := range choices(last, k-1) {
			all = append(all, append(slices.Clone(begin), last))
		}
	}
	slices.SortFunc(all, slices.Compare)
	return all
}

// square of the distance of two points.
func squared(a, b [2]int) int {
	x, y := a[0]-b[0], a[1]-b[1]
	return x*x + y*y
}

// side is greater than 0 if c is to the left of the way from a to b, less if it is to the right.
func side(a, b, c [2]int) int {
	return (b[0]-a[0])*(c[1]-a[1]) - (b[1]-a[1])*(c[0]-a[0])
}

// depth is greater than 0 if d is inside the circle through a, b and c, which are not on one line, and 0 if it is on it.
func depth(a, b, c, d [2]int) int {
	det, origin := 0, [2]int{}
	corners := [3][2]int{}
	for i, p := range [3][2]int{a, b, c} {
		corners[i] = [2]int{p[0] - d[0], p[1] - d[1]}
	}
	for i, p := range corners {
		det += squared(p, origin) * side(origin, corners[(i+1)%3], corners[(i+2)%3])
	}
	if side(a, b, c) < 0 {
		return -det
	}
	return det
}

// P4.1: points, and what are none.
func TestCheck(t *testing.T) {
	for _, points := range wrongPoints {
		if e := berth.Check(points); e != api.ErrPoint {
			t.Errorf("Check(%v) = %d", points, e)
		}
	}
	for _, points := range examples() {
		if e := berth.Check(points); e != api.OK {
			t.Errorf("Check(%v) = %d", points, e)
		}
	}
}

// outcome is whether the results of a call are zero values, and its error.
type outcome struct {
	zero bool
	e    api.Errno
}

func one(n int, e api.Errno) outcome         { return outcome{n == 0, e} }
func yes(ok bool, e api.Errno) outcome       { return outcome{!ok, e} }
func many(l []int, e api.Errno) outcome      { return outcome{len(l) == 0, e} }
func round(c circle, e api.Errno) outcome    { return outcome{c == circle{}, e} }
func threes(l [][3]int, e api.Errno) outcome { return outcome{len(l) == 0, e} }

// pointCalls are the functions that take points.
func pointCalls(points list, c circle, place [2]int, force []int) map[string]outcome {
	near, far, e := berth.Pairs(points)
	return map[string]outcome{
		"Check":      {true, berth.Check(points)},
		"Smallest":   round(berth.Smallest(points)),
		"Force":      many(berth.Force(points)),
		"IsForce":    yes(berth.IsForce(points, force)),
		"Empty":      threes(berth.Empty(points)),
		"Pairs":      {near == [2]int{} && far == [2]int{}, e},
		"On":         many(berth.On(points, c)),
		"IsSmallest": yes(berth.IsSmallest(points, c)),
		"Nearest":    many(berth.Nearest(points, place)),
		"Farthest":   many(berth.Farthest(points, place)),
	}
}

// P4.1: functions that take points return ErrPoint first, whatever else is wrong, with zero values beside it.
func TestWrongPoints(t *testing.T) {
	for _, points := range wrongPoints {
		for _, c := range []circle{{0, 0, 1, 1}, {}} {
			for _, place := range [][2]int{{0, 0}, {21, 0}} {
				for _, force := range [][]int{nil, {0}, {0, 1}, {-1}} {
					for name, got := range pointCalls(points, c, place, force) {
						if (got != outcome{true, api.ErrPoint}) {
							t.Errorf("%s of %v, %v, %v, %v: %v", name, points, c, place, force, got)
						}
					}
				}
			}
		}
	}
}

// P4.1: then ErrArg if a circle is none, or a pair of numbers is out of range.
func TestWrongArguments(t *testing.T) {
	expect := func(got outcome, arguments ...any) {
		t.Helper()
		if (got != outcome{true, api.ErrArg}) {
			t.Errorf("%v: %v", arguments, got)
		}
	}
	good := circle{0, 0, 1, 1}
	for _, c := range wrongCircles {
		expect(many(berth.On(square, c)), "On", c)
		expect(yes(berth.IsSmallest(square, c)), "IsSmallest", c)
		expect(one(berth.Where(c, [2]int{5, 5})), "Where", c)
		expect(one(berth.Where(c, [2]int{21, 5})), "Where", c)
		expect(one(berth.Compare(c, circle{0, 0, 1, 5})), "Compare", c)
		expect(one(berth.Compare(circle{0, 0, 1, 5}, c)), "Compare", c)
		expect(one(berth.Compare(c, c)), "Compare", c)
	}
	for _, p := range wrongPairs {
		expect(many(berth.Nearest(square, p)), "Nearest", p)
		expect(many(berth.Farthest(square, p)), "Farthest", p)
		expect(one(berth.Where(good, p)), "Where", p)
		expect(round(berth.Over(p, square[1])), "Over", p)
		expect(round(berth.Over(square[1], p)), "Over", p)
		expect(round(berth.Over(p, p)), "Over", p)
		expect(round(berth.Through(p, square[1], square[2])), "Through", p)
		expect(round(berth.Through(square[1], p, square[2])), "Through", p)
		expect(round(berth.Through(square[1], square[2], p)), "Through", p)
		expect(round(berth.Through(p, p, p)), "Through", p)
	}
}

// P4.1: the least and the greatest numbers of a pair are in range.
func TestEnds(t *testing.T) {
	for _, p := range [][2]int{{20, 20}, {-20, -20}, {20, -20}, {-20, 20}} {
		if n, e := berth.Where(circle{0, 0, 1, 800}, p); n != 0 || e != api.OK {
			t.Errorf("Where of %v = %d, %d", p, n, e)
		}
		if l, e := berth.Nearest(list{{0, 0}, p}, p); !slices.Equal(l, []int{1}) || e != api.OK {
			t.Errorf("Nearest of %v = %v, %d", p, l, e)
		}
		if l, e := berth.Farthest(list{{0, 0}, p}, p); !slices.Equal(l, []int{0}) || e != api.OK {
			t.Errorf("Farthest of %v = %v, %d", p, l, e)
		}
		if c, e := berth.Over(p, p); c != (circle{p[0], p[1], 1, 0}) || e != api.OK {
			t.Errorf("Over of %v = %v, %d", p, c, e)
		}
		if _, e := berth.Through(p, [2]int{}, [2]int{1, 0}); e != api.OK {
			t.Errorf("Through %v: %d", p, e)
		}
	}
}

// R4: no call changes its arguments or reads behind their ends, and results are new memory.
func TestMemory(t *testing.T) {
	for _, points := range []list{{{3, 4}}, square, wheel[:11], {{0, 0}, {4, 0}, {1, 1}}} {
		n := len(points)
		long := append(slices.Clone(points), [2]int{99, 99}, [2]int{0, 0})
		longForce := []int{0, 1, 2, 99}
		kept := slices.Clone(long)
		c, _ := berth.Smallest(points)
		for name, got := range pointCalls(long[:n], c, points[0], longForce[:2]) {
			if got.e != api.OK && (name != "Pairs" || n > 1) {
				t.Errorf("%s of %v: %d", name, points, got.e)
			}
		}
		if !slices.Equal(long, kept) || !slices.Equal(longForce, []int{0, 1, 2, 99}) {
			t.Errorf("the arguments are now %v and %v", long, longForce)
		}
		for name, call := range map[string]func() ([]int, api.Errno){
			"Force":    func() ([]int, api.Errno) { return berth.Force(points) },
			"On":       func() ([]int, api.Errno) { return berth.On(points, c) },
			"Nearest":  func() ([]int, api.Errno) { return berth.Nearest(points, [2]int{1, 1}) },
			"Farthest": func() ([]int, api.Errno) { return berth.Farthest(points, [2]int{1, 1}) },
		} {
			first, _ := call()
			again := slices.Clone(first)
			for i := range first {
				first[i] = -7
			}
			if got, e := call(); !slices.Equal(got, again) || e != api.OK {
				t.Errorf("%s of %v: %v, %d, not %v", name, points, got, e, again)
			}
		}
	}
	empty, _ := berth.Empty(square)
	clear(empty)
	expectEmpty(t, square)
}
