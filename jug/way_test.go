package jug_test

import (
	"math/rand"
	"slices"
	"testing"

	"careen/api"
	"careen/jug"
)

// name makes a filling the key of a map.
func name(filling []int) string {
	b := make([]byte, len(filling))
	for i, amount := range filling {
		b[i] = byte(amount)
	}
	return string(b)
}

// amounts is the filling of a name.
func amounts(name string) []int {
	f := make([]int, len(name))
	for i := range f {
		f[i] = int(name[i])
	}
	return f
}

// distances are the fillings that can be reached, with the steps they need, level by level.
func distances(sizes, filling []int, closed bool) map[string]int {
	steps := stepsOf(len(sizes), closed)
	far := map[string]int{name(filling): 0}
	level := []string{name(filling)}
	for n := 1; len(level) > 0; n++ {
		var farther []string
		for _, s := range level {
			for _, step := range steps {
				next := name(poured(sizes, amounts(s), step))
				if _, known := far[next]; !known {
					far[next] = n
					farther = append(farther, next)
				}
			}
		}
		level = farther
	}
	return far
}

// fewest are the least steps to each amount that can be measured.
func fewest(sizes []int) map[int]int {
	least := map[int]int{}
	for s, n := range distances(sizes, make([]int, len(sizes)), false) {
		for _, amount := range amounts(s) {
			if old, known := least[amount]; !known || n < old {
				least[amount] = n
			}
		}
	}
	return least
}

// expectWay checks a way: that it has so many steps, all of them steps, and where it ends.
func expectWay(t *testing.T, sizes, from []int, way [][2]int, n int, closed bool, isEnd func([]int) bool) {
	t.Helper()
	f := from
	for _, step := range way {
		if !slices.Contains(stepsOf(len(sizes), closed), step) {
			t.Fatalf("a way of %v from %v: %v", sizes, from, way)
		}
		f = poured(sizes, f, step)
	}
	if len(way) != n || !isEnd(f) {
		t.Fatalf("a way of %v from %v: %v, to %v, not %d steps", sizes, from, way, f, n)
	}
}

// expectWays checks Way from one filling to another one against its distance.
func expectWays(t *testing.T, sizes, from, to []int, closed bool, far map[string]int) {
	t.Helper()
	n, is := far[name(to)]
	way, ok, e := jug.Way(sizes, from, to, closed)
	if ok != is || e != api.OK || !ok && len(way) != 0 {
		t.Fatalf("Way(%v, %v, %v, %t) = %v, %t, %d", sizes, from, to, closed, way, ok, e)
	}
	if ok {
		expectWay(t, sizes, from, way, n, closed, func(f []int) bool { return slices.Equal(f, to) })
	}
}

// P2.2: Way between all fillings of small jugs, Reached and Farthest.
func TestWays(t *testing.T) {
	for _, sizes := range [][]int{{1}, {5}, {1, 1}, {2, 3}, {4, 6}, {2, 4}, {3, 2, 1}, {1, 1, 1, 1}} {
		all := allFillings(sizes)
		for _, from := range all {
			for _, closed := range []bool{false, true} {
				far := distances(sizes, from, closed)
				expectReached(t, sizes, from, closed, far)
				for _, to := range all {
					expectWays(t, sizes, from, to, closed, far)
				}
			}
		}
	}
}

// P2.2: the same between some fillings of large jugs.
func TestLargeWays(t *testing.T) {
	r := rand.New(rand.NewSource(2))
	for _, sizes := range [][]int{{12, 11}, {8, 5, 3}, {12, 7, 5}, {6, 10, 12}, {12, 9, 7, 4}, {12, 12, 12, 12}} {
		for range 2 {
			from := someFilling(r, sizes)
			for _, closed := range []bool{false, true} {
				far := distances(sizes, from, closed)
				expectReached(t, sizes, from, closed, far)
				for range 20 {
					expectWays(t, sizes, from, someFilling(r, sizes), closed, far)
				}
			}
		}
	}
}

func expectReached(t *testing.T, sizes, from []int, closed bool, far map[string]int) {
	t.Helper()
	most := 0
	for _, n := range far {
		most = max(most, n)
	}
	if n, e := jug.Reached(sizes, from, closed); n != len(far) || e != api.OK {
		t.Fatalf("Reached(%v, %v, %t) = %d, %d", sizes, from, closed, n, e)
	}
	if n, e := jug.Farthest(sizes, from, closed); n != most || e != api.OK {
		t.Fatalf("Farthest(%v, %v, %t) = %d, %d", sizes, from, closed, n, e)
	}
}

// P2.2, P2.3: the examples, and fillings that stay as they are.
func TestExamples(t *testing.T) {
	if way, ok, e := jug.Measure([]int{3, 5}, 4); len(way) != 6 || !ok || e != api.OK {
		t.Errorf("Measure = %v, %t, %d", way, ok, e)
	}
	if way, ok, e := jug.Way([]int{8, 5, 3}, []int{8, 0, 0}, []int{4, 4, 0}, true); len(way) != 7 || !ok || e != api.OK {
		t.Errorf("Way = %v, %t, %d", way, ok, e)
	}
	if list, e := jug.Amounts([]int{4, 6}); !slices.Equal(list, []int{0, 2, 4, 6}) || e != api.OK {
		t.Errorf("Amounts = %v, %d", list, e)
	}
	if way, ok, e := jug.Way([]int{8, 5, 3}, []int{1, 2, 3}, []int{1, 2, 3}, true); len(way) != 0 || !ok || e != api.OK {
		t.Errorf("Way = %v, %t, %d", way, ok, e)
	}
	if n, e := jug.Reached([]int{9}, []int{4}, true); n != 1 || e != api.OK {
		t.Errorf("Reached = %d, %d", n, e)
	}
	if n, e := jug.Farthest([]int{9}, []int{4}, true); n != 0 || e != api.OK {
		t.Errorf("Farthest = %d, %d", n, e)
	}
}

// P2.3: Measure, Fewest and Amounts. P2.6: which amounts can be measured.
func TestMeasure(t *testing.T) {
	for _, sizes := range append([][]int{{12, 7, 5}, {12, 8, 10, 6}, {12, 9, 6}, {11, 12, 9, 7}}, rightSizes...) {
		least := fewest(sizes)
		var all []int
		for amount := range 13 {
			n, is := least[amount]
			if is {
				all = append(all, amount)
			}
			way, ok, e := jug.Measure(sizes, amount)
			if ok != is || e != api.OK || !ok && len(way) != 0 {
				t.Fatalf("Measure(%v, %d) = %v, %t, %d", sizes, amount, way, ok, e)
			}
			if ok {
				expectWay(t, sizes, make([]int, len(sizes)), way, n, false, func(f []int) bool { return slices.Contains(f, amount) })
			}
			if steps, ok, e := jug.Fewest(sizes, amount); steps != n || ok != is || e != api.OK {
				t.Fatalf("Fewest(%v, %d) = %d, %t, %d", sizes, amount, steps, ok, e)
			}
		}
		if list, e := jug.Amounts(sizes); !slices.Equal(list, all) || e != api.OK {
			t.Fatalf("Amounts(%v) = %v, %d", sizes, list, e)
		}
		for _, amount := range wrongAmounts {
			expectNoAmount(t, api.ErrArg, sizes, amount)
		}
	}
}

// divides tells whether each number that divides all sizes divides the amount.
func divides(sizes []int, amount int) bool {
	for d := 1; d <= 1000; d++ {
		all := true
		for _, size := range sizes {
			all = all && size%d == 0
		}
		if all && amount%d != 0 {
			return false
		}
	}
	return true
}

// P2.6: what can be measured is what the greatest jug holds and all common divisors divide.
func TestBezout(t *testing.T) {
	var lists [][]int
	for a := 1; a <= 12; a++ {
		lists = append(lists, []int{a})
		for b := 1; b <= 12; b++ {
			lists = append(lists, []int{a, b})
			if b > a && a%2 == 0 {
				lists = append(lists, []int{b, a, 12 - a/2}, []int{a, b, a, b})
			}
		}
	}
	for _, sizes := range lists {
		var want []int
		for amount := range slices.Max(sizes) + 1 {
			if divides(sizes, amount) {
				want = append(want, amount)
			}
		}
		if list, e := jug.Amounts(sizes); !slices.Equal(list, want) || e != api.OK {
			t.Errorf("Amounts(%v) = %v, %d", sizes, list, e)
		}
	}
}

// P2.5: Back between all fillings of small jugs.
func TestBack(t *testing.T) {
	yes, no, none := 0, 0, 0
	for _, sizes := range [][]int{{1}, {5}, {2, 2}, {2, 3}, {4, 6}, {3, 2, 1}, {2, 2, 3}} {
		all := allFillings(sizes)
		leads := map[string]map[string]int{}
		for _, f := range all {
			leads[name(f)] = distances(sizes, f, false)
		}
		for _, from := range all {
			for _, to := range all {
				_, there := leads[name(from)][name(to)]
				_, back := leads[name(to)][name(from)]
				is, e := jug.Back(sizes, from, to)
				switch {
				case !there && (is || e != api.ErrArg), there && (is != back || e != api.OK):
					t.Fatalf("Back(%v, %v, %v) = %t, %d", sizes, from, to, is, e)
				case !there:
					none++
				case is:
					yes++
				default:
					no++
				}
			}
		}
	}
	if yes == 0 || no == 0 || none == 0 {
		t.Errorf("%d ways back, %d ways without one, %d pairs without a way", yes, no, none)
	}
}

// P2.8: the sum stays in closed jugs, and from empty jugs there is always a way back.
func TestSums(t *testing.T) {
	sum := func(f []int) int {
		n := 0
		for _, amount := range f {
			n += amount
		}
		return n
	}
	r := rand.New(rand.NewSource(3))
	for _, sizes := range rightSizes {
		empty := make([]int, len(sizes))
		for range 30 {
			from, to := someFilling(r, sizes), someFilling(r, sizes)
			way, ok, _ := jug.Way(sizes, from, to, true)
			if got, done, _ := jug.Pour(sizes, from, way); ok && (sum(from) != sum(to) || !slices.Equal(got, to) || done != len(way)) {
				t.Fatalf("Way(%v, %v, %v) = %v, which leads to %v", sizes, from, to, way, got)
			}
			steps, _ := jug.Steps(sizes, from, true)
			for _, step := range steps {
				if got, _, _ := jug.Pour(sizes, from, [][2]int{step}); sum(got) != sum(from) {
					t.Fatalf("Pour(%v, %v, %v) = %v", sizes, from, step, got)
				}
			}
			_, leads, _ := jug.Way(sizes, empty, to, false)
			back, e := jug.Back(sizes, empty, to)
			if back != leads || leads != (e == api.OK) {
				t.Fatalf("Back(%v, %v, %v) = %t, %d", sizes, empty, to, back, e)
			}
		}
	}
}
