package order_test

import (
	"math"
	"math/rand"
	"slices"
	"testing"

	"careen/api"
	"careen/order"
)

// P5.5: Same of orders with the same sound sets by other ways, and of those that differ.
func TestSame(t *testing.T) {
	type result struct {
		set int
		ok  bool
		e   api.Errno
	}
	for _, x := range []struct {
		a, b order.Order
		want result
	}{
		{either, either, result{0, true, api.OK}},
		{either, order.Order{N: 3, Ways: ways{{0}, {0, 4}, {1, 2, 3}}}, result{0, true, api.OK}},
		{either, order.Order{N: 3, Ways: ways{nil, nil, {1}}}, result{6, false, api.OK}},
		{either, order.Order{N: 3, Ways: make(ways, 3)}, result{4, false, api.OK}},
		{either, order.Order{N: 3, Ways: ways{nil, nil, {1, 3}}}, result{6, false, api.OK}},
		{either, ring, result{1, false, api.OK}},
		{either, order.Order{N: 2, Ways: make(ways, 2)}, result{0, false, api.OK}},
		{order.Order{N: 7, Ways: make(ways, 7)}, free, result{0, false, api.OK}},
		// No hull can go in either of them.
		{order.Order{N: 3, Ways: ways{{2}, {1}, {3}}}, order.Order{N: 3, Ways: ways{{6}, {1}, {1, 2}}}, result{0, true, api.OK}},
		{free, order.Order{N: 8, Ways: ways{nil, nil, nil, nil, nil, nil, nil, {127}}}, result{128, false, api.OK}},
	} {
		set, ok, e := order.Same(x.a, x.b)
		back, backOk, f := order.Same(x.b, x.a)
		if (result{set, ok, e} != x.want) || (result{back, backOk, f} != x.want) {
			t.Errorf("Same(%v, %v) = %d, %t, %d and %d, %t, %d, not %v", x.a, x.b, set, ok, e, back, backOk, f, x.want)
		}
	}
}

// P5.5: Same of all pairs of some orders, against their sound sets.
func TestSamePairs(t *testing.T) {
	r := rand.New(rand.NewSource(55))
	all := append(everyOrder(2), either, ring)
	for range 80 {
		all = append(all, someOrder(r, 3))
	}
	equal := 0
	for _, a := range all {
		for _, b := range all {
			want, same := 0, a.N == b.N
			inA, inB := soundOf(a), soundOf(b)
			for set := range 1 << a.N {
				if same && slices.Contains(inA, set) != slices.Contains(inB, set) {
					want, same = set, false
				}
			}
			if same {
				equal++
			}
			if got, ok, e := order.Same(a, b); got != want || ok != same || e != api.OK {
				t.Fatalf("Same(%v, %v) = %d, %t, %d, not %d, %t", a, b, got, ok, e, want, same)
			}
		}
	}
	if equal < 2*len(all) {
		t.Errorf("only %d pairs of %d orders are the same", equal, len(all))
	}
}

// P5.5: what ByPairs refuses.
func TestWrongPairs(t *testing.T) {
	forty := make(list, 40)
	for i := range forty {
		forty[i] = [2]int{i % 7, 7}
	}
	for _, x := range []struct {
		n     int
		pairs list
	}{
		{0, nil}, {-1, nil}, {9, nil}, {math.MaxInt, nil}, {math.MinInt, nil}, {0, list{{0, 0}}}, {9, list{{0, 1}}},
		{1, list{{0, 0}}}, {1, list{{0, 1}}}, {1, list{{1, 0}}}, {3, list{{0, 3}}}, {3, list{{3, 0}}}, {3, list{{-1, 0}}}, {3, list{{0, -1}}},
		{3, list{{1, 1}}}, {3, list{{0, 1}, {2, 2}}}, {8, list{{0, 8}}}, {8, list{{math.MaxInt, 0}}}, {8, list{{0, math.MinInt}}}, {8, list{{64, 0}}}, {8, list{{0, 1}, {0, 2}, {8, 3}}},
		{8, append(slices.Clone(forty), [2]int{0, 1})}, {2, make(list, 41)}, {8, append(slices.Clone(forty[:39]), [2]int{3, 3})},
	} {
		if o, e := order.ByPairs(x.n, x.pairs); (made(o, e) != outcome{true, api.ErrArg}) {
			t.Errorf("ByPairs(%d, %v) = %v, %d", x.n, x.pairs, o, e)
		}
	}
	kept := slices.Clone(forty)
	o, e := order.ByPairs(8, forty)
	if words, f := order.Words(o); words != 5040 || e != api.OK || f != api.OK || !slices.Equal(forty, kept) {
		t.Errorf("ByPairs(%v) = %v, %d with %d words", forty, o, e, words)
	}
}

// P5.5: the examples of the chapter, and pairs with a ring.
func TestByPairsExamples(t *testing.T) {
	for _, x := range []struct {
		n     int
		pairs list
		sound []int
		words int64
	}{
		{3, list{{0, 1}, {1, 2}}, []int{0, 1, 3, 7}, 1},
		{3, list{{1, 2}, {0, 1}, {1, 2}, {0, 1}}, []int{0, 1, 3, 7}, 1},
		{3, list{{2, 0}, {1, 0}}, []int{0, 2, 4, 6, 7}, 2},
		{2, nil, []int{0, 1, 2, 3}, 2},
		{1, nil, []int{0, 1}, 1},
		{2, list{{0, 1}, {1, 0}}, []int{0}, 0},
		{4, list{{0, 1}, {1, 2}, {2, 0}}, []int{0, 8}, 0},
		{4, list{{0, 1}, {1, 2}, {2, 1}, {3, 2}}, []int{0, 1, 8, 9}, 0},
	} {
		o, e := order.ByPairs(x.n, x.pairs)
		sound, f := order.Sound(o)
		words, g := order.Words(o)
		if o.N != x.n || !slices.Equal(sound, x.sound) || words != x.words || e+f+g != api.OK {
			t.Errorf("ByPairs(%d, %v) = %v, with %v, %d words", x.n, x.pairs, o, sound, words)
		}
	}
}

// P5.9: ByPairs without a ring is sound; its whole words are the orders in which the first one of each pair comes before the second one. With a ring there are none.
func TestByPairs(t *testing.T) {
	r := rand.New(rand.NewSource(59))
	all := lists(5, 6)
	all = slices.DeleteFunc(all, func(l []int) bool { return len(l) != 6 || setOfAny(l) != 63 })
	for range 150 {
		var pairs list
		shuffled := all[r.Intn(len(all))]
		isRing := r.Intn(4) == 0
		for range r.Intn(9) {
			i, k := r.Intn(6), r.Intn(6)
			if i != k && (isRing || slices.Index(shuffled, i) < slices.Index(shuffled, k)) {
				pairs = append(pairs, [2]int{i, k})
			}
		}
		o, e := order.ByPairs(6, pairs)
		var count int64
		for _, word := range all {
			want := !slices.ContainsFunc(pairs, func(p [2]int) bool { return slices.Index(word, p[0]) > slices.Index(word, p[1]) })
			if is, f := order.IsWord(o, word); is != want || e != api.OK || f != api.OK {
				t.Fatalf("ByPairs(%v): %v is %t, %d, %d", pairs, word, is, e, f)
			}
			if want {
				count++
			}
		}
		if words, f := order.Words(o); words != count || count == 0 && !isRing || f != api.OK {
			t.Fatalf("ByPairs(%v) has %d words, %d, not %d", pairs, words, f, count)
		}
	}
}

// setOfAny is -1 for a list with a number below 0.
func setOfAny(l []int) int {
	set := 0
	for _, h := range l {
		if h < 0 {
			return -1
		}
		set |= 1 << h
	}
	return set
}

// R4: orders that were made share no memory with another one, nor do their parts.
func TestMadeOrders(t *testing.T) {
	for name, build := range map[string]func() (order.Order, api.Errno){
		"ByPairs":  func() (order.Order, api.Errno) { return order.ByPairs(4, list{{0, 1}, {1, 2}, {0, 3}}) },
		"ByPoints": func() (order.Order, api.Errno) { return order.ByPoints(list{{0, 0}, {4, 0}, {0, 4}, {1, 1}}) },
	} {
		o, e := build()
		other, _ := build()
		for i, row := range o.Ways {
			kept := slices.Clone(row)
			for k, next := range o.Ways {
				if k != i {
					o.Ways[k] = append(next, -1)[:len(next)]
					for j := range next {
						next[j] = -2
					}
				}
			}
			if !slices.Equal(row, kept) {
				t.Errorf("%s: row %d is now %v, not %v", name, i, row, kept)
			}
			o, e = build()
		}
		if again, _ := build(); order.Check(again) != api.OK || !slices.EqualFunc(again.Ways, other.Ways, slices.Equal[[]int]) || e != api.OK {
			t.Errorf("%s: %v is not %v", name, again, other)
		}
	}
}

// side is greater than 0 if c is to the left of the way from a to b.
func side(a, b, c [2]int) int {
	return (b[0]-a[0])*(c[1]-a[1]) - (b[1]-a[1])*(c[0]-a[0])
}

func isBetween(p, a, b [2]int) bool {
	return side(a, b, p) == 0 && min(a[0], b[0]) <= p[0] && p[0] <= max(a[0], b[0]) && min(a[1], b[1]) <= p[1] && p[1] <= max(a[1], b[1])
}

// isIn tells whether a point is in the convex hull of others: in a triangle of three of them, or between two.
func isIn(p [2]int, others list) bool {
	for _, a := range others {
		for _, b := range others {
			if isBetween(p, a, b) {
				return true
			}
			for _, c := range others {
				if side(a, b, p) > 0 && side(b, c, p) > 0 && side(c, a, p) > 0 {
					return true
				}
			}
		}
	}
	return false
}

// freeSets are the sound sets of the order of points.
func freeSets(points list) []int {
	var sets []int
	for set := range 1 << len(points) {
		var others list
		for i, p := range points {
			if set>>i&1 == 0 {
				others = append(others, p)
			}
		}
		if !slices.ContainsFunc(hulls(set), func(i int) bool { return isIn(points[i], others) }) {
			sets = append(sets, set)
		}
	}
	return sets
}

// pointLists are parts of a grid, points on lines, round a middle, far away, and random ones.
func pointLists() []list {
	all := []list{
		{{0, 0}}, {{100, -100}}, {{0, 0}, {1, 0}}, {{0, 0}, {4, 0}, {0, 4}, {1, 1}},
		{{0, 0}, {1, 1}, {2, 2}, {3, 3}, {-1, -1}, {7, 7}, {5, 5}, {-9, -9}}, {{3, 1}, {3, -100}, {3, 100}, {3, 0}},
		{{100, 100}, {-100, 100}, {-100, -100}, {100, -100}, {0, 0}, {99, 100}, {100, 99}, {-99, -99}},
		{{0, 0}, {10, 0}, {6, 8}, {-2, 9}, {-9, 4}, {-9, -4}, {-2, -9}, {6, -8}},
		{{0, 0}, {10, 0}, {0, 10}, {-10, -10}, {3, 0}, {0, 3}, {-3, -3}, {1, 1}},
		{{-100, -99}, {99, 100}, {0, 1}, {0, 0}, {-100, -100}, {100, 100}, {1, 2}, {-1, 0}},
	}
	for chosen := 1; chosen < 1<<9-1; chosen++ {
		var points list
		for _, i := range hulls(chosen) {
			points = append(points, [2]int{i/3 - 1, i%3 - 1})
		}
		all = append(all, points)
	}
	r := rand.New(rand.NewSource(50))
	for range 200 {
		var points list
		most := []int{2, 4, 100}[r.Intn(3)]
		for range 1 + r.Intn(8) {
			p := [2]int{r.Intn(2*most+1) - most, r.Intn(2*most+1) - most}
			if !slices.Contains(points, p) {
				points = append(points, p)
			}
		}
		all = append(all, points)
	}
	return all
}

// P5.5: what ByPoints refuses.
func TestWrongPoints(t *testing.T) {
	nine := list{{0, 0}, {1, 0}, {2, 0}, {3, 0}, {0, 1}, {1, 1}, {2, 1}, {3, 1}, {5, 5}}
	for _, points := range []list{
		nil, {}, nine, make(list, 8), {{0, 0}, {0, 0}}, {{1, 2}, {3, 4}, {1, 2}}, {{101, 0}}, {{0, 101}}, {{-101, 0}}, {{0, -101}},
		{{0, 0}, {1, 1}, {100, 101}}, {{math.MaxInt, 0}}, {{0, math.MinInt}}, {{0, 0}, {math.MinInt, math.MaxInt}, {1, 0}},
	} {
		if o, e := order.ByPoints(points); (made(o, e) != outcome{true, api.ErrArg}) {
			t.Errorf("ByPoints(%v) = %v, %d", points, o, e)
		}
	}
}

// P5.5: ByPoints returns an order, with the sound sets of the definition.
func TestByPoints(t *testing.T) {
	for _, points := range pointLists() {
		n := len(points)
		long := append(slices.Clone(points), [2]int{500, 0}, points[0])
		kept := slices.Clone(long)
		o, e := order.ByPoints(long[:n])
		if o.N != n || e != api.OK || order.Check(o) != api.OK || !slices.Equal(long, kept) {
			t.Fatalf("ByPoints(%v) = %v, %d", points, o, e)
		}
		if sound, f := order.Sound(o); !slices.Equal(sound, freeSets(points)) || f != api.OK {
			t.Fatalf("ByPoints(%v) = %v, with the sound sets %v, not %v", points, o, sound, freeSets(points))
		}
	}
	o, _ := order.ByPoints(list{{0, 0}, {4, 0}, {0, 4}, {1, 1}})
	if words, e := order.Words(o); words != 18 || e != api.OK {
		t.Errorf("Words = %d, %d", words, e)
	}
}

// P5.9: the corners of all hulls in an order of points are the points that are not in the convex hull of the others.
func TestCornersOfPoints(t *testing.T) {
	for _, points := range pointLists() {
		o, e := order.ByPoints(points)
		want := 0
		for i, p := range points {
			if !isIn(p, slices.Delete(slices.Clone(points), i, i+1)) {
				want += 1 << i
			}
		}
		if got, f := order.Corners(o, 1<<o.N-1); got != want || e != api.OK || f != api.OK {
			t.Fatalf("the corners of %v: %d, %d, %d, not %d", points, got, e, f, want)
		}
	}
}
