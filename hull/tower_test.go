package hull_test

import (
	"math"
	"math/big"
	"math/rand"
	"slices"
	"testing"

	"careen/api"
	"careen/hull"
)

var wrongTowers = []list{
	nil, {}, slices.Repeat(list{{0, 1}}, 13), make(list, 100),
	{{0, 0}}, {{0, -1}}, {{0, 101}}, {{-1001, 5}}, {{1001, 5}},
	{{0, math.MaxInt}}, {{0, math.MinInt}}, {{math.MaxInt, 1}}, {{math.MinInt, 1}}, {{math.MaxInt, math.MaxInt}},
	{{-2, 4}, {0, 0}}, {{-2, 4}, {-2, 4}, {1001, 4}}, append(slices.Repeat(list{{-3, 4}}, 11), [2]int{0, 101}),
}

// towers are some that stand and some that do not.
func towers() []list {
	all := []list{{{0, 4}}, {{-2, 4}}, {{-2, 4}, {0, 4}}, {{1000, 100}}, {{-1000, 1}}, {{0, 1}}, {{-1, 1}}, {{-1, 2}}, {{-1, 3}}, {{-2, 3}}, slices.Repeat(list{{1000, 100}}, 12), slices.Repeat(list{{-1000, 100}}, 12), slices.Repeat(list{{-1, 2}}, 12)}
	for a := -4; a <= 4; a++ {
		for b := -6; b <= 6; b++ {
			for length := 1; length <= 4; length++ {
				all = append(all, list{{a, length}, {b, 5 - length}}, list{{-7, length}, {a, 4}, {b, length}})
			}
		}
	}
	r := rand.New(rand.NewSource(35))
	for range 3000 {
		all = append(all, someTower(r))
	}
	return all
}

// someTower is one whose planks are laid from the top on near the balance of those above them.
func someTower(r *rand.Rand) list {
	var tower list
	at := r.Intn(40) - 20
	for range 1 + r.Intn(12) {
		length := 1 + r.Intn(1+r.Intn(100))
		left := at - r.Intn(length+2)
		tower = append(tower, [2]int{left, length})
		at = int(math.Round(middleOfPlanks(tower)))
	}
	slices.Reverse(tower)
	if r.Intn(2) == 0 {
		move := int(math.Ceil(middleOfPlanks(tower)))
		for i := range tower {
			tower[i][0] -= move
		}
	}
	return tower
}

func middleOfPlanks(planks list) float64 {
	f, _ := balanceOf(planks).Float64()
	return f
}

// balanceOf is the mean of the centres, weighted by the lengths.
func balanceOf(planks list) *big.Rat {
	total, weight := new(big.Rat), new(big.Rat)
	for _, plank := range planks {
		length := frac(plank[1], 1)
		total = add(total, mul(length, add(frac(plank[0], 1), frac(plank[1], 2))))
		weight = add(weight, length)
	}
	return quo(total, weight)
}

// falling is the first plank whose balance is not over what is below it, or the number of planks.
func falling(tower list) int {
	for i := range tower {
		at := balanceOf(tower[i:])
		if i == 0 && at.Sign() > 0 {
			return i
		}
		if i > 0 {
			left, length := tower[i-1][0], tower[i-1][1]
			if at.Cmp(frac(left, 1)) < 0 || at.Cmp(frac(left+length, 1)) > 0 {
				return i
			}
		}
	}
	return len(tower)
}

// P3.4: towers, and what are none; a tower need not stand.
func TestCheckTower(t *testing.T) {
	for _, tower := range wrongTowers {
		if e := hull.CheckTower(tower); e != api.ErrTower {
			t.Errorf("CheckTower(%v) = %d", tower, e)
		}
	}
	for _, tower := range towers() {
		if e := hull.CheckTower(tower); e != api.OK {
			t.Errorf("CheckTower(%v) = %d", tower, e)
		}
	}
	if e := hull.CheckTower(list{{-2, 4}, {500, 1}, {-700, 100}}); e != api.OK {
		t.Errorf("CheckTower of planks beside one another: %d", e)
	}
}

// P3.4: functions that take a tower return ErrTower first, with zero values beside it.
func TestWrongTowers(t *testing.T) {
	for _, tower := range wrongTowers {
		for _, plank := range []int{0, -1, len(tower), math.MaxInt} {
			if b, e := hull.Balance(tower, plank); b != [2]int{} || e != api.ErrTower {
				t.Errorf("Balance(%v, %d) = %v, %d", tower, plank, b, e)
			}
		}
		if n, ok, e := hull.Stands(tower); n != 0 || ok || e != api.ErrTower {
			t.Errorf("Stands(%v) = %d, %t, %d", tower, n, ok, e)
		}
		if n, e := hull.Reach(tower); n != 0 || e != api.ErrTower {
			t.Errorf("Reach(%v) = %d, %d", tower, n, e)
		}
	}
}

// P3.4: Balance, in lowest terms, and ErrArg where there is no such plank.
func TestBalance(t *testing.T) {
	for _, tower := range towers() {
		for plank := range tower {
			want := balanceOf(tower[plank:])
			if got, e := hull.Balance(tower, plank); got != [2]int{int(want.Num().Int64()), int(want.Denom().Int64())} || e != api.OK {
				t.Errorf("Balance(%v, %d) = %v, %d, not %v", tower, plank, got, e, want)
			}
		}
		for _, plank := range []int{-1, len(tower), len(tower) + 1, math.MinInt, math.MaxInt} {
			if got, e := hull.Balance(tower, plank); got != [2]int{} || e != api.ErrArg {
				t.Errorf("Balance(%v, %d) = %v, %d", tower, plank, got, e)
			}
		}
	}
	for _, x := range []struct {
		tower list
		plank int
		want  [2]int
	}{
		{list{{0, 4}}, 0, [2]int{2, 1}},
		{list{{-2, 4}}, 0, [2]int{0, 1}},
		{list{{-2, 4}, {0, 4}}, 0, [2]int{1, 1}},
		{list{{-2, 4}, {0, 5}}, 1, [2]int{5, 2}},
		{list{{-4, 1}, {-2, 2}}, 0, [2]int{-11, 6}},
	} {
		if got, e := hull.Balance(x.tower, x.plank); got != x.want || e != api.OK {
			t.Errorf("Balance(%v, %d) = %v, %d, not %v", x.tower, x.plank, got, e, x.want)
		}
	}
}

// P3.4: Stands, also with a balance at an end of the plank below, or at the end of the ground.
func TestStands(t *testing.T) {
	for _, x := range []struct {
		tower list
		first int
	}{
		{list{{0, 4}}, 0},
		{list{{-2, 4}}, 1},
		{list{{-2, 4}, {0, 4}}, 0},
		{list{{-1, 3}}, 0},
		{list{{-1000, 100}}, 1},
		{list{{-9, 4}, {-7, 4}}, 2},
		{list{{-9, 4}, {-6, 4}}, 1},
		{list{{-9, 4}, {-11, 4}}, 2},
		{list{{-9, 4}, {-12, 4}}, 1},
		{list{{-9, 4}, {-9, 4}, {0, 4}}, 1},
		{list{{-9, 40}, {-7, 4}, {0, 4}}, 0},
		{list{{-30, 10}, {-30, 10}, {-18, 4}}, 2},
	} {
		expectStands(t, x.tower, x.first)
	}
	standing := 0
	for _, tower := range towers() {
		first := falling(tower)
		expectStands(t, tower, first)
		if first == len(tower) && first > 3 {
			standing++
		}
	}
	if standing < 100 {
		t.Errorf("only %d of the higher towers stand", standing)
	}
}

// expectStands expects the first plank that does not, or that the tower stands if that is the number of planks.
func expectStands(t *testing.T, tower list, first int) {
	t.Helper()
	stands := first == len(tower)
	if stands {
		first = 0
	}
	if n, ok, e := hull.Stands(tower); n != first || ok != stands || e != api.OK {
		t.Errorf("Stands(%v) = %d, %t, %d, not %d, %t", tower, n, ok, e, first, stands)
	}
}

// P3.4: Reach, wherever the plank lies that reaches farthest, and also where none reaches 0.
func TestReach(t *testing.T) {
	for _, x := range []struct {
		tower list
		want  int
	}{
		{list{{-2, 4}}, 2},
		{list{{-2, 4}, {-9, 20}, {-2, 3}}, 11},
		{list{{-50, 10}, {-45, 3}}, -40},
		{list{{-1000, 1}}, -999},
		{list{{1000, 100}, {1000, 99}}, 1100},
	} {
		if got, e := hull.Reach(x.tower); got != x.want || e != api.OK {
			t.Errorf("Reach(%v) = %d, %d, not %d", x.tower, got, e, x.want)
		}
	}
	for _, tower := range towers() {
		var ends []int
		for _, plank := range tower {
			ends = append(ends, plank[0]+plank[1])
		}
		if got, e := hull.Reach(tower); got != slices.Max(ends) || e != api.OK {
			t.Errorf("Reach(%v) = %d, %d, of %v", tower, got, e, ends)
		}
	}
}

// P3.4: Harmonic, in lowest terms, and ErrArg beside its range.
func TestHarmonic(t *testing.T) {
	want := new(big.Rat)
	for n := 1; n <= 30; n++ {
		want = add(want, frac(1, n))
		if got, e := hull.Harmonic(n); got != [2]int64{want.Num().Int64(), want.Denom().Int64()} || e != api.OK {
			t.Errorf("Harmonic(%d) = %v, %d, not %v", n, got, e, want)
		}
	}
	if got, _ := hull.Harmonic(4); got != [2]int64{25, 12} {
		t.Errorf("Harmonic(4) = %v", got)
	}
	for _, n := range []int{0, -1, 31, math.MinInt, math.MaxInt} {
		if got, e := hull.Harmonic(n); got != [2]int64{} || e != api.ErrArg {
			t.Errorf("Harmonic(%d) = %v, %d", n, got, e)
		}
	}
}

// reachesTooFar tells whether a tower of n planks of one length that stands has a reach of more than half the length times Harmonic.
func reachesTooFar(t *testing.T, tower list) bool {
	t.Helper()
	if _, ok, e := hull.Stands(tower); !ok || e != api.OK {
		return false
	}
	reach, e := hull.Reach(tower)
	h, f := hull.Harmonic(len(tower))
	if e != api.OK || f != api.OK {
		t.Fatalf("Reach and Harmonic of %v: %d, %d", tower, e, f)
	}
	return frac(reach, 1).Cmp(mul(frac(tower[0][1], 2), big.NewRat(h[0], h[1]))) > 0
}

// P3.7: no tower of planks of one length reaches farther, of all towers of few planks and some of many.
func TestReachOfTowers(t *testing.T) {
	for length := 1; length <= 6; length++ {
		for a := -9; a <= 3; a++ {
			for b := -9; b <= 6; b++ {
				for c := -9; c <= 9; c++ {
					for _, tower := range []list{{{a, length}}, {{a, length}, {b, length}}, {{a, length}, {b, length}, {c, length}}} {
						if reachesTooFar(t, tower) {
							t.Fatalf("%v reaches too far", tower)
						}
					}
				}
			}
		}
	}
	r := rand.New(rand.NewSource(36))
	for range 20000 {
		length := 1 + r.Intn(100)
		tower := make(list, 1+r.Intn(12))
		at := 0
		for i := range tower {
			at += r.Intn(1+length/2) - length/10
			tower[i] = [2]int{at - length, length}
		}
		if reachesTooFar(t, tower) {
			t.Fatalf("%v reaches too far", tower)
		}
	}
}

// P3.7: the towers that reach farthest stand, and none of their planks can be moved on.
func TestFarthestReach(t *testing.T) {
	for _, tower := range []list{
		{{-50, 100}},
		{{-3, 4}, {-1, 4}},
		{{-75, 100}, {-25, 100}},
		{{-10, 12}, {-7, 12}, {-1, 12}},
		{{-21, 24}, {-17, 24}, {-11, 24}, {1, 24}},
	} {
		n, length := len(tower), tower[0][1]
		h, _ := hull.Harmonic(n)
		reach, e := hull.Reach(tower)
		if e != api.OK || frac(reach, 1).Cmp(mul(frac(length, 2), big.NewRat(h[0], h[1]))) != 0 {
			t.Errorf("Reach(%v) = %d, %d", tower, reach, e)
		}
		expectStands(t, tower, n)
		for first := range tower {
			moved := slices.Clone(tower)
			for i := first; i < n; i++ {
				moved[i][0]++
			}
			if _, ok, e := hull.Stands(moved); ok || e != api.OK {
				t.Errorf("Stands(%v): %t, %d", moved, ok, e)
			}
		}
	}
}

// R4: no call changes its tower or reads behind its end.
func TestTowerMemory(t *testing.T) {
	long := list{{-9, 4}, {-7, 4}, {999, 100}, {0, 0}}
	kept := slices.Clone(long)
	expectStands(t, long[:2], 2)
	if n, e := hull.Reach(long[:2]); n != -3 || e != api.OK {
		t.Errorf("Reach = %d, %d", n, e)
	}
	if b, e := hull.Balance(long[:2], 0); b != [2]int{-6, 1} || e != api.OK {
		t.Errorf("Balance = %v, %d", b, e)
	}
	if !slices.Equal(long, kept) {
		t.Errorf("the tower is now %v", long)
	}
}
