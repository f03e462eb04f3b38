package order_test

import (
	"slices"
	"testing"

	"careen/api"
	"careen/order"
)

// closedOf are the closed sets of an order with these sound sets.
func closedOf(n int, sound []int) []int {
	var closed []int
	for _, set := range sound {
		closed = append(closed, 1<<n-1-set)
	}
	slices.Sort(closed)
	return closed
}

// closureOf is the closed set that contains the set, and is contained in all others that do; -1 if there is none.
func closureOf(closed []int, set int) int {
	var above []int
	for _, c := range closed {
		if set&^c == 0 {
			above = append(above, c)
		}
	}
	for _, c := range above {
		if !slices.ContainsFunc(above, func(other int) bool { return c&^other != 0 }) {
			return c
		}
	}
	return -1
}

// cornersOf are the corners of a set.
func cornersOf(closed []int, set int) int {
	corners := 0
	for _, h := range hulls(set) {
		if closureOf(closed, set-1<<h)>>h&1 == 0 {
			corners += 1 << h
		}
	}
	return corners
}

// sounds are those of the orders that are sound.
func sounds(all []order.Order) []order.Order {
	return slices.DeleteFunc(all, func(o order.Order) bool { return !slices.Contains(soundOf(o), 1<<o.N-1) })
}

// P5.4: the examples of the chapter, and ErrNone where the order is not sound.
func TestClosureExamples(t *testing.T) {
	chain, _ := order.ByPairs(3, list{{0, 1}, {1, 2}})
	for set, want := range map[int][2]int{0: {0, 0}, 1: {7, 1}, 2: {6, 2}, 4: {4, 4}, 5: {7, 1}, 6: {6, 2}, 7: {7, 1}} {
		closure, e := order.Closure(chain, set)
		corners, f := order.Corners(chain, set)
		if closure != want[0] || corners != want[1] || e != api.OK || f != api.OK {
			t.Errorf("%d: Closure %d, %d, Corners %d, %d, not %v", set, closure, e, corners, f, want)
		}
	}
	for _, o := range []order.Order{ring, {N: 2, Ways: ways{{2}, {1}}}, {N: 1, Ways: ways{{0}}}} {
		want := api.ErrNone
		if o.N == 1 {
			want = api.OK
		}
		for set := range 1 << o.N {
			closure, e := order.Closure(o, set)
			corners, f := order.Corners(o, set)
			if e != want || f != want || want != api.OK && closure+corners != 0 {
				t.Errorf("%v, %d: Closure %d, %d, Corners %d, %d", o, set, closure, e, corners, f)
			}
		}
	}
}

// P5.4: Closure and Corners of all sets.
func TestClosure(t *testing.T) {
	all := append(examples(), either)
	if n := len(sounds(slices.Clone(all))); n < 500 || n > len(all)-500 {
		t.Fatalf("%d of %d orders are sound", n, len(all))
	}
	for _, o := range all {
		sound := soundOf(o)
		isSound := slices.Contains(sound, 1<<o.N-1)
		closed := closedOf(o.N, sound)
		for set := range 1 << o.N {
			wantClosure, wantCorners, want := 0, 0, api.ErrNone
			if isSound {
				wantClosure, wantCorners, want = closureOf(closed, set), cornersOf(closed, set), api.OK
			}
			if got, e := order.Closure(o, set); got != wantClosure || e != want {
				t.Fatalf("Closure(%v, %d) = %d, %d, not %d, %d", o, set, got, e, wantClosure, want)
			}
			if got, e := order.Corners(o, set); got != wantCorners || e != want {
				t.Fatalf("Corners(%v, %d) = %d, %d, not %d, %d", o, set, got, e, wantCorners, want)
			}
		}
	}
}

// P5.8: closed sets have closed intersections, and each one is the closure of its corners.
func TestClosedSets(t *testing.T) {
	for _, o := range sounds(append(examples(), either)) {
		sound, _ := order.Sound(o)
		closed := closedOf(o.N, sound)
		isClosed := map[int]bool{}
		for _, set := range closed {
			isClosed[set] = true
		}
		for _, set := range closed {
			corners, e := order.Corners(o, set)
			closure, f := order.Closure(o, corners)
			if closure != set || e != api.OK || f != api.OK {
				t.Fatalf("%d of %v has the corners %d, their closure is %d", set, o, corners, closure)
			}
			for _, other := range closed {
				if !isClosed[set&other] {
					t.Fatalf("%v: %d is not closed, but %d and %d are", o, set&other, set, other)
				}
			}
		}
	}
}

// P5.8: of two hulls not in a closed set, only one can be in its closure together with the other one.
func TestAntiExchange(t *testing.T) {
	for _, o := range sounds(append(examples(), either)) {
		sound, _ := order.Sound(o)
		for _, set := range closedOf(o.N, sound) {
			others := hulls(1<<o.N - 1 - set)
			for _, x := range others {
				with, e := order.Closure(o, set|1<<x)
				for _, y := range others {
					if x == y || with>>y&1 == 0 {
						continue
					}
					if back, f := order.Closure(o, set|1<<y); back>>x&1 == 1 || e != api.OK || f != api.OK {
						t.Fatalf("%v, %d: %d and %d are in the closures with one another", o, set, x, y)
					}
				}
			}
		}
	}
}
