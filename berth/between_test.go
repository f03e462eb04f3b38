package berth_test

import (
	"math/rand"
	"slices"
	"testing"

	"careen/api"
	"careen/berth"
)

// emptyTriples are found by a determinant, without a circle.
func emptyTriples(points list) [][3]int {
	var all [][3]int
	for _, t := range choices(len(points), 3) {
		a, b, c := points[t[0]], points[t[1]], points[t[2]]
		if side(a, b, c) != 0 && !slices.ContainsFunc(points, func(p [2]int) bool { return depth(a, b, c, p) > 0 }) {
			all = append(all, [3]int(t))
		}
	}
	return all
}

func expectEmpty(t *testing.T, points list) {
	t.Helper()
	want := emptyTriples(points)
	if got, e := berth.Empty(points); !slices.Equal(got, want) || e != api.OK {
		t.Errorf("Empty(%v) = %v, %d, not %v", points, got, e, want)
	}
}

// P4.4: Empty, in the order of lists.
func TestEmpty(t *testing.T) {
	for _, x := range []struct {
		points list
		want   [][3]int
	}{
		{list{{0, 0}}, nil},
		{list{{0, 0}, {1, 0}}, nil},
		{list{{0, 0}, {1, 0}, {2, 0}, {3, 0}}, nil},
		{list{{0, 0}, {1, 0}, {0, 1}}, [][3]int{{0, 1, 2}}},
		{square, [][3]int{{0, 1, 2}, {0, 1, 3}, {0, 2, 3}, {1, 2, 3}}},
		{list{{0, 0}, {9, 0}, {0, 9}, {2, 2}}, [][3]int{{0, 1, 3}, {0, 2, 3}, {1, 2, 3}}},
		{list{{0, 0}, {2, 0}, {1, 0}, {1, 5}}, [][3]int{{0, 2, 3}, {1, 2, 3}}},
	} {
		if got, e := berth.Empty(x.points); !slices.Equal(got, x.want) || e != api.OK {
			t.Errorf("Empty(%v) = %v, %d, not %v", x.points, got, e, x.want)
		}
	}
	for _, points := range examples() {
		expectEmpty(t, points)
	}
	if got, e := berth.Empty(wheel); len(got) != 220 || e != api.OK {
		t.Errorf("Empty of twelve points on a circle: %d triples, error %d", len(got), e)
	}
}

// P4.4: Nearest and Farthest, also if several are as near, or the place is a point.
func TestNearest(t *testing.T) {
	r := rand.New(rand.NewSource(43))
	several := 0
	for _, points := range examples() {
		for _, place := range [][2]int{{0, 0}, points[0], {r.Intn(41) - 20, r.Intn(41) - 20}, {20, -20}, {-20, 3}} {
			var near, far []int
			for i, p := range points {
				isNear, isFar := true, true
				for _, q := range points {
					isNear = isNear && squared(p, place) <= squared(q, place)
					isFar = isFar && squared(p, place) >= squared(q, place)
				}
				if isNear {
					near = append(near, i)
				}
				if isFar {
					far = append(far, i)
				}
			}
			if got, e := berth.Nearest(points, place); !slices.Equal(got, near) || e != api.OK {
				t.Errorf("Nearest(%v, %v) = %v, %d, not %v", points, place, got, e, near)
			}
			if got, e := berth.Farthest(points, place); !slices.Equal(got, far) || e != api.OK {
				t.Errorf("Farthest(%v, %v) = %v, %d, not %v", points, place, got, e, far)
			}
			if len(near) > 1 && len(far) > 1 {
				several++
			}
		}
	}
	if several < 100 {
		t.Errorf("only %d times several are nearest and farthest", several)
	}
}

// P4.4: Pairs, of several the first ones, and ErrArg for a single point.
func TestPairs(t *testing.T) {
	for _, x := range []struct {
		points    list
		near, far [2]int
	}{
		{list{{0, 0}, {0, 7}}, [2]int{0, 1}, [2]int{0, 1}},
		{list{{0, 0}, {9, 0}, {9, 1}, {0, 2}}, [2]int{1, 2}, [2]int{1, 3}},
		{square, [2]int{0, 1}, [2]int{0, 3}},
		{list{{0, 0}, {2, 2}, {0, 2}, {2, 0}}, [2]int{0, 2}, [2]int{0, 1}},
		{list{{-20, -20}, {0, 0}, {20, 20}, {0, 1}}, [2]int{1, 3}, [2]int{0, 2}},
		{wheel, [2]int{1, 2}, [2]int{0, 6}},
	} {
		if near, far, e := berth.Pairs(x.points); near != x.near || far != x.far || e != api.OK {
			t.Errorf("Pairs(%v) = %v, %v, %d, not %v, %v", x.points, near, far, e, x.near, x.far)
		}
	}
	for _, points := range examples() {
		if len(points) < 2 {
			if near, far, e := berth.Pairs(points); near != [2]int{} || far != [2]int{} || e != api.ErrArg {
				t.Errorf("Pairs(%v) = %v, %v, %d", points, near, far, e)
			}
			continue
		}
		length := func(pair []int) int { return squared(points[pair[0]], points[pair[1]]) }
		pairs := choices(len(points), 2)
		wantNear := slices.MinFunc(pairs, func(p, q []int) int { return length(p) - length(q) })
		wantFar := slices.MinFunc(pairs, func(p, q []int) int { return length(q) - length(p) })
		if near, far, e := berth.Pairs(points); !slices.Equal(near[:], wantNear) || !slices.Equal(far[:], wantFar) || e != api.OK {
			t.Errorf("Pairs(%v) = %v, %v, %d, not %v, %v", points, near, far, e, wantNear, wantFar)
		}
	}
}

// isAtSide tells whether a point is at a side of the hull: all points are on one side of a line through it and another one.
func isAtSide(points list, p [2]int) bool {
	return slices.ContainsFunc(points, func(q [2]int) bool {
		return q != p && !slices.ContainsFunc(points, func(other [2]int) bool { return side(p, q, other) < 0 })
	})
}

// P4.7: each point is in an empty triple, and unless four are on an empty circle there are 2 n - 2 - h of them.
func TestDelaunay(t *testing.T) {
	counted := 0
	for _, points := range examples() {
		triples, e := berth.Empty(points)
		if e != api.OK {
			t.Fatalf("Empty(%v): %d", points, e)
		}
		isFlat := !slices.ContainsFunc(points, func(p [2]int) bool { return side(points[0], points[len(points)-1], p) != 0 })
		if isFlat {
			if len(triples) != 0 {
				t.Errorf("Empty(%v) = %v", points, triples)
			}
			continue
		}
		around, general := 0, true
		for i, p := range points {
			if !slices.ContainsFunc(triples, func(t [3]int) bool { return slices.Contains(t[:], i) }) {
				t.Errorf("Empty(%v) = %v, without %d", points, triples, i)
			}
			if isAtSide(points, p) {
				around++
			}
		}
		for _, triple := range triples {
			c, _ := berth.Through(points[triple[0]], points[triple[1]], points[triple[2]])
			on, _ := berth.On(points, c)
			general = general && len(on) == 3
		}
		if want := 2*len(points) - 2 - around; general {
			counted++
			if len(triples) != want {
				t.Errorf("Empty(%v) has %d triples, not %d", points, len(triples), want)
			}
		}
	}
	if counted < 100 {
		t.Errorf("only %d examples without four points on an empty circle", counted)
	}
}
