package order_test

import (
	"math"
	"math/rand"
	"slices"
	"testing"

	"careen/api"
	"careen/order"
)

type (
	ways = [][]int
	list = [][2]int
)

var (
	// Hull 2 waits for 0 or 1.
	either = order.Order{N: 3, Ways: ways{nil, nil, {1, 2}}}
	// Hulls that wait for each other.
	ring = order.Order{N: 3, Ways: ways{{2}, {1}, nil}}
	// All eight hulls, each at any time.
	free = order.Order{N: 8, Ways: make(ways, 8)}
	// Each of the first seven waits for three of the others, whichever; the last one for four of the first seven.
	crowd = order.Order{N: 8, Ways: crowdWays()}
)

func crowdWays() ways {
	all := make(ways, 8)
	for set := range 256 {
		for h := range 8 {
			if size := len(hulls(set)); size == 3 && h < 7 || size == 4 && h == 7 && set < 128 {
				if set>>h&1 == 0 {
					all[h] = append(all[h], set)
				}
			}
		}
	}
	return all
}

var wrongOrders = []order.Order{
	{}, {N: -1}, {N: 0, Ways: ways{}}, {N: 0, Ways: ways{nil}}, {N: 9, Ways: make(ways, 9)}, {N: 64, Ways: make(ways, 64)}, {N: math.MaxInt}, {N: math.MinInt, Ways: ways{nil}},
	{N: 1}, {N: 1, Ways: make(ways, 2)}, {N: 2, Ways: make(ways, 1)}, {N: 3, Ways: make(ways, 8)}, {N: 8, Ways: make(ways, 7)}, {N: 8, Ways: make(ways, 9)},
	{N: 1, Ways: ways{{1}}}, {N: 1, Ways: ways{{2}}}, {N: 1, Ways: ways{{-1}}}, {N: 1, Ways: ways{{-2}}}, {N: 1, Ways: ways{{0, 0}}},
	{N: 2, Ways: ways{nil, {2}}}, {N: 2, Ways: ways{nil, {4}}}, {N: 2, Ways: ways{nil, {1, 0}}}, {N: 2, Ways: ways{{2, 2}, nil}}, {N: 2, Ways: ways{{0, 2, 4}, nil}},
	{N: 3, Ways: ways{nil, nil, {2, 1}}}, {N: 3, Ways: ways{nil, nil, {1, 2, 2}}}, {N: 3, Ways: ways{nil, nil, {1, 2, 4}}}, {N: 3, Ways: ways{nil, nil, {1, 2, 7}}}, {N: 3, Ways: ways{{-8}, nil, nil}},
	{N: 3, Ways: ways{nil, {math.MaxInt}, nil}}, {N: 3, Ways: ways{nil, {math.MinInt}, nil}}, {N: 3, Ways: ways{nil, {0, math.MaxInt - 2}, nil}},
	{N: 8, Ways: ways{evens(41), nil, nil, nil, nil, nil, nil, nil}}, {N: 8, Ways: ways{nil, nil, nil, nil, nil, nil, nil, {256}}}, {N: 8, Ways: ways{evens(1000), nil, nil, nil, nil, nil, nil, nil}},
}

// evens are the first even numbers: sets without hull 0.
func evens(count int) []int {
	sets := make([]int, count)
	for i := range sets {
		sets[i] = 2 * i
	}
	return sets
}

// examples are all orders of up to three hulls, some with more, and the ones at the limits.
func examples() []order.Order {
	all := []order.Order{
		free, crowd, {N: 8, Ways: ways{evens(40), nil, nil, nil, nil, nil, nil, nil}},
		{N: 8, Ways: ways{{254}, {0, 253}, {128}, {128}, {4, 8}, {31}, {16, 191}, {0}}},
		{N: 4, Ways: ways{nil, {4}, nil, {1, 2}}}, {N: 4, Ways: ways{nil, {12}, {9}, {1}}},
	}
	for n := 1; n <= 3; n++ {
		all = append(all, everyOrder(n)...)
	}
	r := rand.New(rand.NewSource(5))
	for range 300 {
		all = append(all, someOrder(r, 4+r.Intn(3)))
	}
	for range 30 {
		all = append(all, someOrder(r, 7))
	}
	return all
}

// everyOrder lists all orders of n hulls.
func everyOrder(n int) []order.Order {
	all := []order.Order{{N: n}}
	for h := range n {
		var more []order.Order
		for chosen := range 1 << (1 << n) {
			row, fits := hulls(chosen), true
			for _, set := range row {
				fits = fits && set>>h&1 == 0
			}
			for _, o := range all {
				if fits {
					more = append(more, order.Order{N: n, Ways: append(slices.Clone(o.Ways), row)})
				}
			}
		}
		all = more
	}
	return all
}

// someOrder has few small sets, so that it is often sound.
func someOrder(r *rand.Rand, n int) order.Order {
	o := order.Order{N: n, Ways: make(ways, n)}
	for h := range n {
		for range r.Intn(4) {
			set := r.Intn(1<<n) & r.Intn(1<<n) &^ (1 << h)
			if !slices.Contains(o.Ways[h], set) {
				o.Ways[h] = append(o.Ways[h], set)
			}
		}
		slices.Sort(o.Ways[h])
	}
	return o
}

// hulls lists the bits of a set, rising.
func hulls(set int) []int {
	var l []int
	for h := 0; set>>h > 0; h++ {
		if set>>h&1 == 1 {
			l = append(l, h)
		}
	}
	return l
}

func setOf(word []int) int {
	set := 0
	for _, h := range word {
		set += 1 << h
	}
	return set
}

// canGo holds a hull against the definition.
func canGo(o order.Order, h int, gone []int) bool {
	if slices.Contains(gone, h) {
		return false
	}
	for _, way := range o.Ways[h] {
		all := true
		for _, i := range hulls(way) {
			all = all && slices.Contains(gone, i)
		}
		if all {
			return true
		}
	}
	return len(o.Ways[h]) == 0
}

// wordsOf lists all words, grown from the empty one, each of them after its beginnings.
func wordsOf(o order.Order) [][]int {
	all := [][]int{nil}
	for i := 0; i < len(all); i++ {
		for h := range o.N {
			if canGo(o, h, all[i]) {
				all = append(all, append(slices.Clone(all[i]), h))
			}
		}
	}
	return all
}

// soundOf are the sets of all words.
func soundOf(o order.Order) []int {
	in := map[int]bool{}
	for _, word := range wordsOf(o) {
		in[setOf(word)] = true
	}
	return sorted(in)
}

func sorted(in map[int]bool) []int {
	var l []int
	for set := range in {
		l = append(l, set)
	}
	slices.Sort(l)
	return l
}

// P5.1: orders, and what are none.
func TestCheck(t *testing.T) {
	for _, o := range wrongOrders {
		if e := order.Check(o); e != api.ErrOrder {
			t.Errorf("Check(%v) = %d", o, e)
		}
	}
	for _, o := range append(examples(), either, ring) {
		if e := order.Check(o); e != api.OK {
			t.Errorf("Check(%v) = %d", o, e)
		}
	}
}

// outcome is whether the results of a call are zero values, and its error.
type outcome struct {
	zero bool
	e    api.Errno
}

func one[T int | int64](n T, e api.Errno) outcome { return outcome{n == 0, e} }
func yes(ok bool, e api.Errno) outcome            { return outcome{!ok, e} }
func many(l []int, e api.Errno) outcome           { return outcome{len(l) == 0, e} }
func made(o order.Order, e api.Errno) outcome     { return outcome{o.N == 0 && len(o.Ways) == 0, e} }

func same(a, b order.Order) outcome {
	set, ok, e := order.Same(a, b)
	return outcome{set == 0 && !ok, e}
}

func cheapest(o order.Order, costs []int) outcome {
	word, cost, e := order.Cheapest(o, costs)
	return outcome{len(word) == 0 && cost == 0, e}
}

// setCalls are the functions that take an order and a set.
func setCalls(o order.Order, set int) map[string]outcome {
	return map[string]outcome{
		"CanGo":    many(order.CanGo(o, set)),
		"IsSound":  yes(order.IsSound(o, set)),
		"Word":     many(order.Word(o, set)),
		"Greatest": one(order.Greatest(o, set)),
		"Ends":     one(order.Ends(o, set)),
		"Closure":  one(order.Closure(o, set)),
		"Corners":  one(order.Corners(o, set)),
	}
}

// P5.1: functions that take an order return ErrOrder first, whatever else is wrong, with zero values beside it.
func TestWrongOrders(t *testing.T) {
	for _, o := range wrongOrders {
		calls := map[string]outcome{
			"IsWord":     yes(order.IsWord(o, []int{0})),
			"IsWord()":   yes(order.IsWord(o, nil)),
			"Sound":      many(order.Sound(o)),
			"Words":      one(order.Words(o)),
			"Paths":      many(order.Paths(o)),
			"Same":       same(o, either),
			"Same, too":  same(either, o),
			"Same twice": same(o, o),
			"Cheapest":   cheapest(o, make([]int, 3)),
			"Cheapest()": cheapest(o, nil),
		}
		for _, set := range []int{0, 1, 3, -1, 256, math.MaxInt} {
			for name, got := range setCalls(o, set) {
				calls[name] = got
				if (got != outcome{true, api.ErrOrder}) {
					t.Errorf("%s of %v, %d: %v", name, o, set, got)
				}
			}
		}
		for name, got := range calls {
			if (got != outcome{true, api.ErrOrder}) {
				t.Errorf("%s of %v: %v", name, o, got)
			}
		}
	}
}

// P5.1: then ErrArg if a set is none, also where the order is not sound.
func TestWrongSets(t *testing.T) {
	for _, o := range []order.Order{either, ring, free, {N: 1, Ways: ways{nil}}} {
		for _, set := range []int{-1, 1 << o.N, 1<<o.N + 1, -1 << o.N, 1 << 62, math.MaxInt, math.MinInt} {
			for name, got := range setCalls(o, set) {
				if (got != outcome{true, api.ErrArg}) {
					t.Errorf("%s of %v, %d: %v", name, o, set, got)
				}
			}
		}
		for _, set := range []int{0, 1<<o.N - 1} {
			for name, got := range setCalls(o, set) {
				if got.e == api.ErrArg || got.e == api.ErrOrder {
					t.Errorf("%s of %v, %d: %v", name, o, set, got)
				}
			}
		}
	}
}

// P5.1: CanGo of all sets, those that are not sound, too.
func TestCanGo(t *testing.T) {
	for _, o := range append(examples(), either, ring) {
		for set := range 1 << o.N {
			var want []int
			for h := range o.N {
				if canGo(o, h, hulls(set)) {
					want = append(want, h)
				}
			}
			if got, e := order.CanGo(o, set); !slices.Equal(got, want) || e != api.OK {
				t.Fatalf("CanGo(%v, %d) = %v, %d, not %v", o, set, got, e, want)
			}
		}
	}
}

// lists are all lists of up to so many numbers from -1 to n.
func lists(n, most int) [][]int {
	all := [][]int{nil}
	for i := 0; i < len(all); i++ {
		for h := -1; h <= n && len(all[i]) < most; h++ {
			all = append(all, append(slices.Clone(all[i]), h))
		}
	}
	return all
}

// P5.1: IsWord of all short lists, and of what can be no word of any order.
func TestIsWord(t *testing.T) {
	for _, o := range slices.Concat(everyOrder(1), everyOrder(2), []order.Order{either, ring, {N: 3, Ways: ways{{6}, {0, 4}, nil}}}) {
		words := wordsOf(o)
		for _, l := range lists(o.N, o.N+1) {
			want := slices.ContainsFunc(words, func(word []int) bool { return slices.Equal(word, l) })
			if got, e := order.IsWord(o, l); got != want || e != api.OK {
				t.Fatalf("IsWord(%v, %v) = %t, %d, not %t", o, l, got, e, want)
			}
		}
	}
	for _, l := range [][]int{{8}, {63}, {64}, {-1}, {math.MaxInt}, {math.MinInt}, {0, 1, 2, 3, 4, 5, 6, 7, 0}, {0, 1, 2, 3, 4, 5, 6, 7, 8}, make([]int, 1000)} {
		if got, e := order.IsWord(free, l); got || e != api.OK {
			t.Errorf("IsWord(%v) = %t, %d", l, got, e)
		}
	}
	if got, e := order.IsWord(free, []int{7, 0, 6, 1, 5, 2, 4, 3}); !got || e != api.OK {
		t.Errorf("IsWord = %t, %d", got, e)
	}
}

// P5.7: a word stays a word when its last hulls are left out.
func TestBeginnings(t *testing.T) {
	for _, o := range append(everyOrder(3)[1000:1100], either, free, crowd) {
		all, _ := order.Sound(o)
		for _, set := range all {
			word, e := order.Word(o, set)
			for length := range word {
				if is, f := order.IsWord(o, word[:length]); !is || e != api.OK || f != api.OK {
					t.Fatalf("%v is no word of %v", word[:length], o)
				}
			}
		}
	}
}

// R4: no call changes its arguments or reads behind their ends.
func TestArguments(t *testing.T) {
	rows := ways{{0, 6, 1, 99}, {4, -3, -3}, {0, 1, 2, 3}, {7}}
	kept := ways{{0, 6, 1, 99}, {4, -3, -3}, {0, 1, 2, 3}, {7}}
	o := order.Order{N: 3, Ways: ways{rows[0][:2], rows[1][:1], rows[2][:2], rows[3]}[:3]}
	costs, word := []int{3, 2, 1, -9}, []int{2, 1, 0, 2}
	for set := range 8 {
		for name, got := range setCalls(o, set) {
			if got.e != api.OK && got.e != api.ErrNone {
				t.Errorf("%s of %d: %d", name, set, got.e)
			}
		}
	}
	for name, got := range map[string]outcome{
		"Check":    {true, order.Check(o)},
		"IsWord":   yes(order.IsWord(o, word[:3])),
		"Sound":    many(order.Sound(o)),
		"Words":    one(order.Words(o)),
		"Paths":    many(order.Paths(o)),
		"Same":     same(o, o),
		"Cheapest": cheapest(o, costs[:3]),
	} {
		if got.e != api.OK || got.zero != (name == "Check") {
			t.Errorf("%s: %v", name, got)
		}
	}
	if !slices.Equal(costs, []int{3, 2, 1, -9}) || !slices.Equal(word, []int{2, 1, 0, 2}) || !slices.EqualFunc(rows, kept, slices.Equal[[]int]) {
		t.Errorf("the arguments are now %v, %v, %v", rows, costs, word)
	}
}

// R4: results are new memory.
func TestResults(t *testing.T) {
	for name, call := range map[string]func() ([]int, api.Errno){
		"CanGo":    func() ([]int, api.Errno) { return order.CanGo(either, 1) },
		"Sound":    func() ([]int, api.Errno) { return order.Sound(either) },
		"Word":     func() ([]int, api.Errno) { return order.Word(either, 7) },
		"Paths":    func() ([]int, api.Errno) { return order.Paths(either) },
		"Cheapest": func() ([]int, api.Errno) { w, _, e := order.Cheapest(either, []int{1, 2, 3}); return w, e },
	} {
		first, _ := call()
		again := slices.Clone(first)
		for i := range first {
			first[i] = -7
		}
		if got, e := call(); !slices.Equal(got, again) || len(got) == 0 || e != api.OK {
			t.Errorf("%s: %v, %d, not %v", name, got, e, again)
		}
	}
}
