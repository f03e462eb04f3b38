package hull_test

import (
	"math/big"
	"slices"
	"testing"

	"careen/api"
	"careen/hull"
)

// shape is a hull with what the definitions say of it, found with exact fractions.
type shape struct {
	h      list
	middle point
}

func shapeOf(h list) shape { return shape{h, middleOf(h)} }

func (s shape) corner(i int) point { return pointOf(s.h[(i+len(s.h))%len(s.h)]) }

// foot is the point of the line of side i that is nearest to the middle.
func (s shape) foot(i int) point {
	a, b := s.corner(i), s.corner(i+1)
	x, y := sub(b.x, a.x), sub(b.y, a.y)
	part := quo(add(mul(sub(s.middle.x, a.x), x), mul(sub(s.middle.y, a.y), y)), add(mul(x, x), mul(y, y)))
	return point{add(a.x, mul(part, x)), add(a.y, mul(part, y))}
}

// isRest: a point of the line lies on the side just if it is from neither end farther away than the other end is.
func (s shape) isRest(i int) bool {
	foot, length := s.foot(i), apart(s.corner(i), s.corner(i+1))
	return apart(foot, s.corner(i)).Cmp(length) <= 0 && apart(foot, s.corner(i+1)).Cmp(length) <= 0
}

func (s shape) isFirm(i int) bool {
	foot := s.foot(i)
	return s.isRest(i) && apart(foot, s.corner(i)).Sign() > 0 && apart(foot, s.corner(i+1)).Sign() > 0
}

// isTip: an angle is less than a right one just if the square of the side opposite is less than the sum of the others.
func (s shape) isTip(i int) bool {
	at := s.corner(i)
	less := func(other point) bool {
		return apart(s.middle, other).Cmp(add(apart(at, s.middle), apart(at, other))) < 0
	}
	return less(s.corner(i-1)) && less(s.corner(i+1))
}

func (s shape) lean(i int) *big.Rat { return apart(s.middle, s.foot(i)) }

func (s shape) roll(i int) []int {
	n := len(s.h)
	roll := []int{i}
	for !s.isRest(i) {
		foot := s.foot(i)
		if apart(foot, s.corner(i)).Cmp(apart(foot, s.corner(i+1))) < 0 {
			i = (i + n - 1) % n
		} else {
			i = (i + 1) % n
		}
		roll = append(roll, i)
	}
	return roll
}

// which are the numbers of the corners, or sides, for which something holds.
func (s shape) which(holds func(int) bool) []int {
	var all []int
	for i := range s.h {
		if holds(i) {
			all = append(all, i)
		}
	}
	return all
}

// P3.2: Rests, Firm and Tips.
func TestRests(t *testing.T) {
	atEnd := 0
	for _, h := range examples() {
		s := shapeOf(h)
		for _, x := range []struct {
			name string
			call func([][2]int) ([]int, api.Errno)
			want []int
		}{{"Rests", hull.Rests, s.which(s.isRest)}, {"Firm", hull.Firm, s.which(s.isFirm)}, {"Tips", hull.Tips, s.which(s.isTip)}} {
			if got, e := x.call(h); !slices.Equal(got, x.want) || e != api.OK {
				t.Errorf("%s(%v) = %v, %d, not %v", x.name, h, got, e, x.want)
			}
		}
		if len(s.which(s.isRest)) > len(s.which(s.isFirm)) {
			atEnd++
		}
	}
	if atEnd == 0 {
		t.Error("no example has a foot at an end")
	}
}

// P3.2: some hulls whose rests were found by hand: also with a foot at the first, and at the other end of a side.
func TestSomeRests(t *testing.T) {
	for _, x := range []struct {
		h                 list
		rests, firm, tips []int
	}{
		{square, []int{0, 1, 2, 3}, []int{0, 1, 2, 3}, []int{0, 1, 2, 3}},
		{sliver, []int{0, 1}, []int{0, 1}, []int{0, 1}},
		{list{{0, 0}, {1, 0}, {-1, 1}}, []int{0, 1, 2}, []int{1, 2}, []int{1, 2}},
		{list{{-1, 0}, {0, 0}, {1, 1}}, []int{0, 1, 2}, []int{1, 2}, []int{0, 2}},
	} {
		rests, e := hull.Rests(x.h)
		firm, f := hull.Firm(x.h)
		tips, g := hull.Tips(x.h)
		if !slices.Equal(rests, x.rests) || !slices.Equal(firm, x.firm) || !slices.Equal(tips, x.tips) || e != api.OK || f != api.OK || g != api.OK {
			t.Errorf("%v: rests %v, firm %v, tips %v", x.h, rests, firm, tips)
		}
	}
}

// P3.2: Roll, over each end of a side, and over several sides.
func TestRoll(t *testing.T) {
	if got, e := hull.Roll(sliver, 2); !slices.Equal(got, []int{2, 1}) || e != api.OK {
		t.Errorf("Roll = %v, %d", got, e)
	}
	longest, forwards, backwards := 0, 0, 0
	for _, h := range examples() {
		s := shapeOf(h)
		for i := range h {
			want := s.roll(i)
			if got, e := hull.Roll(h, i); !slices.Equal(got, want) || e != api.OK {
				t.Errorf("Roll(%v, %d) = %v, %d, not %v", h, i, got, e, want)
			}
			longest = max(longest, len(want))
			if len(want) > 1 && want[1] == i+1 {
				forwards++
			}
			if len(want) > 1 && want[1] == i-1 {
				backwards++
			}
		}
	}
	if longest < 3 || forwards == 0 || backwards == 0 {
		t.Errorf("the examples roll over at most %d sides, %d forwards, %d backwards", longest, forwards, backwards)
	}
}

// P3.2: Lean, in lowest terms, and Lowest.
func TestLean(t *testing.T) {
	for i, want := range []int64{1, 4, 1, 4} {
		if got, e := hull.Lean(square, i); got != [2]int64{want, 1} || e != api.OK {
			t.Errorf("Lean(%d) = %v, %d", i, got, e)
		}
	}
	for _, h := range examples() {
		s := shapeOf(h)
		low := 0
		for i := range h {
			want := s.lean(i)
			got, e := hull.Lean(h, i)
			if got != [2]int64{want.Num().Int64(), want.Denom().Int64()} || e != api.OK {
				t.Errorf("Lean(%v, %d) = %v, %d, not %v", h, i, got, e, want)
			}
			if want.Cmp(s.lean(low)) < 0 {
				low = i
			}
		}
		if got, e := hull.Lowest(h); got != low || e != api.OK {
			t.Errorf("Lowest(%v) = %d, %d, not %d", h, got, e, low)
		}
	}
}

// P3.2: of several lowest sides the first one.
func TestLowest(t *testing.T) {
	for _, x := range []struct {
		h    list
		want int
	}{{square, 0}, {list{{4, 0}, {4, 2}, {0, 2}, {0, 0}}, 1}, {largest, 0}, {sliver, 0}, {list{{0, 0}, {1, 0}, {1, 1}}, 2}} {
		if got, e := hull.Lowest(x.h); got != x.want || e != api.OK {
			t.Errorf("Lowest(%v) = %d, %d, not %d", x.h, got, e, x.want)
		}
	}
}

// P3.5: two firm rests at least, as many tips; the lowest side is one; rolls end at a rest, and their leans fall.
func TestDomokos(t *testing.T) {
	for _, h := range examples() {
		rests, _ := hull.Rests(h)
		firm, _ := hull.Firm(h)
		tips, _ := hull.Tips(h)
		if len(firm) < 2 || len(tips) != len(firm) {
			t.Errorf("%v: firm %v, tips %v", h, firm, tips)
		}
		if low, e := hull.Lowest(h); !slices.Contains(firm, low) || e != api.OK {
			t.Errorf("%v: firm %v, lowest %d", h, firm, low)
		}
		for i := range h {
			roll, _ := hull.Roll(h, i)
			if len(roll) == 0 || roll[0] != i {
				t.Fatalf("Roll(%v, %d) = %v", h, i, roll)
			}
			for k, side := range roll {
				last := k == len(roll)-1
				if slices.Contains(rests, side) != last {
					t.Errorf("Roll(%v, %d) = %v, rests %v", h, i, roll, rests)
				}
				if !last && !falls(h, side, roll[k+1]) {
					t.Errorf("Roll(%v, %d) = %v, whose leans do not fall", h, i, roll)
				}
			}
		}
	}
}

func falls(h list, from, to int) bool {
	a, e := hull.Lean(h, from)
	b, f := hull.Lean(h, to)
	return e == api.OK && f == api.OK && big.NewRat(a[0], a[1]).Cmp(big.NewRat(b[0], b[1])) > 0
}
