package hull_test

import (
	"math"
	"math/rand"
	"slices"
	"testing"

	"careen/api"
	"careen/hull"
)

// P3.3: Turned, its corners in the same order.
func TestTurned(t *testing.T) {
	want := list{{0, 0}, {0, 4}, {-2, 4}, {-2, 0}}
	if got, e := hull.Turned(square); !slices.Equal(got, want) || e != api.OK {
		t.Errorf("Turned = %v, %d", got, e)
	}
	for _, h := range examples() {
		got, e := hull.Turned(h)
		if e != api.OK || len(got) != len(h) {
			t.Fatalf("Turned(%v) = %v, %d", h, got, e)
		}
		for i, p := range h {
			if got[i] != [2]int{-p[1], p[0]} {
				t.Errorf("Turned(%v) = %v", h, got)
			}
		}
	}
}

// P3.6: turned four times it is the hull, and each time it has the same rests, tips and leans.
func TestTurnedFourTimes(t *testing.T) {
	for _, h := range examples() {
		now := h
		for range 4 {
			turned, e := hull.Turned(now)
			if e != api.OK || hull.Check(turned) != api.OK {
				t.Fatalf("Turned(%v) = %v, %d", now, turned, e)
			}
			now = turned
			expectSame(t, h, turned)
		}
		if !slices.Equal(now, h) {
			t.Errorf("%v turned four times is %v", h, now)
		}
	}
}

func expectSame(t *testing.T, a, b list) {
	t.Helper()
	for _, f := range []func([][2]int) ([]int, api.Errno){hull.Rests, hull.Firm, hull.Tips} {
		x, _ := f(a)
		if y, _ := f(b); !slices.Equal(x, y) || len(x) == 0 {
			t.Errorf("rests or tips of %v and %v: %v, %v", a, b, x, y)
		}
	}
	for side := range a {
		x, _ := hull.Lean(a, side)
		if y, _ := hull.Lean(b, side); x != y || x[0] <= 0 {
			t.Errorf("leans of %v and %v, side %d: %v, %v", a, b, side, x, y)
		}
	}
}

// P3.3: Around, where there are no such points, or all are on one line.
func TestAroundErrors(t *testing.T) {
	for _, points := range []list{
		nil, {}, {{0, 0}}, {{0, 0}, {1, 0}}, thirteen, make(list, 13), make(list, 50),
		{{0, 0}, {21, 0}, {0, 1}}, {{0, 0}, {1, 0}, {0, -21}}, {{0, 0}, {1, 1}, {2, 21}}, {{-21, 0}, {0, 0}, {1, 0}},
		{{0, 0}, {math.MaxInt, 0}, {0, 1}}, {{0, math.MinInt}, {1, 0}, {0, 1}}, {{math.MinInt, math.MinInt}, {0, 0}, {1, 1}},
	} {
		if got, e := hull.Around(points); len(got) != 0 || e != api.ErrArg {
			t.Errorf("Around(%v) = %v, %d", points, got, e)
		}
	}
	for _, points := range []list{
		make(list, 3), make(list, 12), {{0, 0}, {1, 1}, {2, 2}}, {{5, 1}, {-5, 1}, {5, 1}, {0, 1}}, {{3, 4}, {3, 4}, {3, -20}},
		{{-20, 20}, {20, -20}, {0, 0}, {10, -10}}, {{1, 2}, {3, 4}, {1, 2}},
	} {
		if got, e := hull.Around(points); len(got) != 0 || e != api.ErrHull {
			t.Errorf("Around(%v) = %v, %d", points, got, e)
		}
	}
}

func expectAround(t *testing.T, points list) {
	t.Helper()
	want, error := hullOf(points), api.OK
	if want == nil {
		error = api.ErrHull
	}
	got, e := hull.Around(points)
	if !slices.Equal(got, want) || e != error {
		t.Fatalf("Around(%v) = %v, %d, not %v, %d", points, got, e, want, error)
	}
	if e == api.OK && hull.Check(got) != api.OK {
		t.Fatalf("Around(%v) = %v, which is no hull", points, got)
	}
}

// P3.3: Around, against sides found by trying all pairs: with points that come twice, lie inside or at the sides.
func TestAround(t *testing.T) {
	for n := 3; n < 6; n++ {
		for _, points := range tuples(grid(3), n) {
			expectAround(t, points)
		}
	}
	r := rand.New(rand.NewSource(33))
	for range 5000 {
		expectAround(t, somePoints(r))
	}
	for x := range 13 {
		for y := range 13 {
			expectAround(t, list{{0, 0}, {12, 0}, {12, 12}, {0, 12}, {x, y}, {6, 6}, {x, y}, {0, 0}, {12, 6}})
		}
	}
}

// P3.3: the hull around the corners of a hull is that hull, beginning with its least corner, whatever the order of the points.
func TestAroundHulls(t *testing.T) {
	r := rand.New(rand.NewSource(34))
	for _, h := range examples() {
		least := slices.MinFunc(h, func(a, b [2]int) int { return slices.Compare(a[:], b[:]) })
		first := slices.Index(h, least)
		want := slices.Concat(h[first:], h[:first])
		points := slices.Clone(h)
		r.Shuffle(len(points), func(i, j int) { points[i], points[j] = points[j], points[i] })
		if got, e := hull.Around(points); !slices.Equal(got, want) || e != api.OK {
			t.Errorf("Around(%v) = %v, %d, not %v", points, got, e, want)
		}
	}
}
