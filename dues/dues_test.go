package dues_test

import (
	"math"
	"math/big"
	"math/rand"
	"reflect"
	"slices"
	"testing"

	"careen/api"
	"careen/dues"
)

type (
	canal = dues.Canal
	pair  = [2]int64
)

// line is the canal of the examples: one way of three places, and a ship at each.
func line() canal {
	return canal{[]int{-1, 0, 1}, []int{6, 4, 2}, []int{0, 1, 2}}
}

// fork is a canal with two arms, two ships at the same berth, and a piece that no ship needs.
func fork() canal {
	return canal{[]int{-1, 0, 0, 1, 2}, []int{10, 7, 3, 1, 9}, []int{3, 2, 1, 2}}
}

// largest is a canal at all limits, each piece behind the one before it.
func largest() canal {
	var c canal
	for place := range 10 {
		c.Up = append(c.Up, place-1)
		c.Cost = append(c.Cost, 1000)
	}
	c.Ships = []int{9, 0, 9, 8, 1, 5, 9}
	return c
}

// clone has spare capacity, filled with numbers that are not to be read.
func clone(c canal) canal {
	return canal{spare(c.Up, -7), spare(c.Cost, -7), spare(c.Ships, -7)}
}

func spare[T any](list []T, beyond T) []T {
	longer := append(slices.Clone(list), beyond, beyond)
	return longer[:len(list)]
}

// someCanal is a random one, with at most so many ships, and costs that are mostly small.
func someCanal(r *rand.Rand, ships int) canal {
	most := 1000
	if r.Intn(3) > 0 {
		most = 1 + r.Intn(12)
	}
	c := canal{Up: []int{-1}, Cost: []int{r.Intn(most + 1)}}
	places := 1 + r.Intn(10)
	for place := 1; place < places; place++ {
		c.Up = append(c.Up, place-1-r.Intn(1+r.Intn(place)))
		c.Cost = append(c.Cost, r.Intn(most+1))
	}
	for range r.Intn(ships + 1) {
		c.Ships = append(c.Ships, r.Intn(len(c.Up)))
	}
	return c
}

// below returns whether a way down from the berth leads over the piece.
func below(c canal, berth, piece int) bool {
	return berth == piece || berth > 0 && below(c, c.Up[berth], piece)
}

// needs are the pieces on the way from a ship's berth to the sea.
func needs(c canal, ship int) []int {
	var places []int
	for place := range c.Up {
		if below(c, c.Ships[ship], place) {
			places = append(places, place)
		}
	}
	return places
}

// costOf adds up the pieces that one of the ships needs.
func costOf(c canal, ships ...int) int {
	total := 0
	for place, cost := range c.Cost {
		if slices.ContainsFunc(ships, func(ship int) bool { return below(c, c.Ships[ship], place) }) {
			total += cost
		}
	}
	return total
}

// members are the ships of a set.
func members(set int) []int {
	var ships []int
	for ship := range 10 {
		if set>>ship%2 == 1 {
			ships = append(ships, ship)
		}
	}
	return ships
}

func rat(f pair) *big.Rat { return big.NewRat(f[0], f[1]) }

func whole(n int) *big.Rat { return big.NewRat(int64(n), 1) }

// fractions are these as pairs in lowest terms.
func fractions(list []*big.Rat) []pair {
	var pairs []pair
	for _, f := range list {
		pairs = append(pairs, pair{f.Num().Int64(), f.Denom().Int64()})
	}
	return pairs
}

// outcome is whether the results of a call are zero values, and its error.
type outcome struct {
	zero bool
	e    api.Errno
}

func value[T comparable](x T, e api.Errno) outcome { var zero T; return outcome{x == zero, e} }
func many[T any](l []T, e api.Errno) outcome       { return outcome{len(l) == 0, e} }
func verdict(set int, fair bool, e api.Errno) outcome {
	return outcome{set == 0 && !fair, e}
}
func canalOf(c canal, e api.Errno) outcome {
	return outcome{len(c.Up)+len(c.Cost)+len(c.Ships) == 0, e}
}

// canalCalls are the functions that take a canal only.
func canalCalls(c canal) map[string]outcome {
	return map[string]outcome{
		"Check":   {true, dues.Check(c)},
		"Equal":   many(dues.Equal(c)),
		"Average": many(dues.Average(c)),
		"Pieces":  many(dues.Pieces(c)),
	}
}

// shipCalls are those that take a ship, too.
func shipCalls(c canal, ship int) map[string]outcome {
	return map[string]outcome{
		"Needs":    many(dues.Needs(c, ship)),
		"Least":    value(dues.Least(c, ship)),
		"Greatest": value(dues.Greatest(c, ship)),
		"Without":  canalOf(dues.Without(c, ship)),
	}
}

// setCalls are those that take a set, too.
func setCalls(c canal, set int) map[string]outcome {
	return map[string]outcome{
		"CostOf": value(dues.CostOf(c, set)),
		"Gain":   value(dues.Gain(c, set)),
	}
}

func fails(t *testing.T, e api.Errno, calls map[string]outcome, of ...any) {
	t.Helper()
	for name, got := range calls {
		if (got != outcome{true, e}) {
			t.Errorf("%s of %v: %v, not %d", name, of, got, e)
		}
	}
}

// wrongCanals have one fault each.
func wrongCanals() []canal {
	zeros := func(n int) []int { return make([]int, n) }
	list := []canal{
		{},
		{nil, nil, []int{0}},
		{nil, []int{1}, nil},
		{[]int{-1}, nil, nil},
		{[]int{-1}, []int{1, 1}, nil},
		{[]int{-1, 0}, []int{1}, []int{1}},
		{[]int{-1, 0}, []int{1, 1, 1}, []int{1}},
		{append([]int{-1}, zeros(10)...), zeros(11), []int{0}},
		{append([]int{-1}, zeros(31)...), zeros(32), []int{0}},
		{[]int{-1}, []int{1}, zeros(8)},
		{[]int{-1}, []int{1}, zeros(64)},
	}
	for _, up := range []int{0, 1, -2, math.MaxInt, math.MinInt, 1<<32 - 1, -1 - 1<<32} {
		list = append(list, canal{[]int{up}, []int{1}, []int{0}}, canal{[]int{up, 0}, []int{1, 1}, []int{0}})
	}
	for _, up := range []int{-1, -2, 2, 3, 4, 1 << 32, 1<<32 + 1, -1 << 32, math.MaxInt, math.MinInt} {
		list = append(list, canal{[]int{-1, 0, up, 0}, zeros(4), nil}, canal{[]int{-1, 0, up}, zeros(3), []int{2}})
	}
	list = append(list, canal{[]int{-1, 1}, zeros(2), nil}, canal{[]int{-1, -1}, zeros(2), nil}, canal{[]int{0, 0}, zeros(2), nil})
	for _, cost := range []int{-1, 1001, 1 << 32, -1 << 32, math.MaxInt, math.MinInt} {
		list = append(list, canal{[]int{-1, 0}, []int{cost, 1}, nil}, canal{[]int{-1, 0}, []int{1, cost}, []int{0}})
	}
	for _, berth := range []int{-1, 2, 3, 10, 1 << 32, 1<<32 + 1, -1 << 32, math.MaxInt, math.MinInt} {
		list = append(list, canal{[]int{-1, 0}, []int{1, 1}, []int{berth}}, canal{[]int{-1, 0}, []int{1, 1}, []int{1, berth}})
	}
	return list
}

// P10.1: ErrFleet for what is no canal, whatever else is wrong, with zero values beside it.
func TestWrongCanals(t *testing.T) {
	for _, c := range wrongCanals() {
		fails(t, api.ErrFleet, canalCalls(c), c)
		for _, number := range []int{0, 1, -1, 7, 128, math.MaxInt, math.MinInt} {
			fails(t, api.ErrFleet, shipCalls(c, number), c, number)
			fails(t, api.ErrFleet, setCalls(c, number), c, number)
			fails(t, api.ErrFleet, map[string]outcome{"Power": many(dues.Power(c, number))}, c, number)
		}
		for _, order := range [][]int{nil, {0}, {0, 1}, {-1}} {
			fails(t, api.ErrFleet, map[string]outcome{"ByOrder": many(dues.ByOrder(c, order))}, c, order)
		}
		for _, shares := range [][]pair{nil, {{1, 1}}, {{0, 1}, {0, 1}}, {{0, 0}}} {
			fails(t, api.ErrFleet, map[string]outcome{"IsFair": verdict(dues.IsFair(c, shares))}, c, shares)
		}
	}
}

// P10.1: OK for canals, up to their limits.
func TestCanals(t *testing.T) {
	list := []canal{
		line(),
		fork(),
		largest(),
		{[]int{-1}, []int{0}, nil},
		{[]int{-1}, []int{1000}, []int{0, 0, 0, 0, 0, 0, 0}},
		{[]int{-1, 0, 0, 0, 0, 0, 0, 0, 0, 0}, make([]int, 10), []int{9, 1}},
		{[]int{-1, 0, 1, 2, 3, 4, 5, 6, 7, 8}, make([]int, 10), []int{}},
	}
	r := rand.New(rand.NewSource(101))
	for range 300 {
		list = append(list, someCanal(r, 7))
	}
	for _, c := range list {
		for name, got := range canalCalls(clone(c)) {
			if got.e != api.OK {
				t.Errorf("%s(%v): %d", name, c, got.e)
			}
		}
	}
}

// P10.1: ErrArg for a ship that is none, or a set that has one.
func TestWrongShipsAndSets(t *testing.T) {
	none := line()
	none.Ships = nil
	for _, c := range []canal{none, line(), fork(), largest()} {
		m := len(c.Ships)
		for _, ship := range []int{-1, m, m + 1, 7, 64, 1 << 32, -1 << 32, -1<<32 + 1, math.MaxInt, math.MinInt} {
			fails(t, api.ErrArg, shipCalls(c, ship), c, ship)
		}
		for _, set := range []int{-1, 1 << m, 1<<m + 1, 128, 1 << 32, 1<<32 + 1, -1 << 32, math.MaxInt, math.MinInt} {
			fails(t, api.ErrArg, setCalls(c, set), c, set)
		}
	}
}

// P10.1, P10.4: Needs, CostOf, Gain and Pieces by their definitions, for each ship and each set.
func TestShipsAndSets(t *testing.T) {
	r := rand.New(rand.NewSource(1014))
	for range 400 {
		c := someCanal(r, 7)
		users := make([]int, len(c.Up))
		for ship := range c.Ships {
			want := needs(c, ship)
			if got, e := dues.Needs(clone(c), ship); !slices.Equal(got, want) || e != api.OK {
				t.Fatalf("Needs(%v, %d) = %v, %d, not %v", c, ship, got, e, want)
			}
			for _, place := range want {
				users[place]++
			}
		}
		if got, e := dues.Pieces(clone(c)); !slices.Equal(got, users) || e != api.OK {
			t.Fatalf("Pieces(%v) = %v, %d, not %v", c, got, e, users)
		}
		for set := range 1 << len(c.Ships) {
			ships := members(set)
			cost, gain := costOf(c, ships...), -costOf(c, ships...)
			for _, ship := range ships {
				gain += costOf(c, ship)
			}
			if got, e := dues.CostOf(clone(c), set); got != cost || e != api.OK {
				t.Fatalf("CostOf(%v, %b) = %d, %d, not %d", c, set, got, e, cost)
			}
			if got, e := dues.Gain(clone(c), set); got != gain || e != api.OK {
				t.Fatalf("Gain(%v, %b) = %d, %d, not %d", c, set, got, e, gain)
			}
		}
	}
}

// P10.1, P10.4: the examples, a fork, and the greatest costs.
func TestShipsAndSetsExamples(t *testing.T) {
	for _, x := range []struct {
		c                canal
		set, cost, gain  int
		ship             int
		needs, allPieces []int
	}{
		{line(), 7, 12, 16, 2, []int{0, 1, 2}, []int{3, 2, 1}},
		{line(), 5, 12, 6, 0, []int{0}, []int{3, 2, 1}},
		{line(), 4, 12, 0, 1, []int{0, 1}, []int{3, 2, 1}},
		{line(), 0, 0, 0, 1, []int{0, 1}, []int{3, 2, 1}},
		{fork(), 15, 21, 40, 0, []int{0, 1, 3}, []int{4, 2, 2, 1, 0}},
		{fork(), 10, 13, 13, 1, []int{0, 2}, []int{4, 2, 2, 1, 0}},
		{fork(), 3, 21, 10, 3, []int{0, 2}, []int{4, 2, 2, 1, 0}},
		{largest(), 127, 10000, 38000, 5, []int{0, 1, 2, 3, 4, 5}, []int{7, 6, 5, 5, 5, 5, 4, 4, 4, 3}},
	} {
		cost, e := dues.CostOf(x.c, x.set)
		gain, f := dues.Gain(x.c, x.set)
		if cost != x.cost || gain != x.gain || e != api.OK || f != api.OK {
			t.Errorf("CostOf and Gain of %v: %d, %d", x, cost, gain)
		}
		places, e := dues.Needs(x.c, x.ship)
		pieces, f := dues.Pieces(x.c)
		if !slices.Equal(places, x.needs) || !slices.Equal(pieces, x.allPieces) || e != api.OK || f != api.OK {
			t.Errorf("Needs and Pieces of %v: %v, %v", x, places, pieces)
		}
	}
}

// P10.1: Without leaves out one ship, and nothing else.
func TestWithout(t *testing.T) {
	for _, c := range []canal{line(), fork(), largest(), {[]int{-1}, []int{3}, []int{0}}} {
		for ship := range c.Ships {
			var want []int
			for other, berth := range c.Ships {
				if other != ship {
					want = append(want, berth)
				}
			}
			got, e := dues.Without(clone(c), ship)
			if !slices.Equal(got.Up, c.Up) || !slices.Equal(got.Cost, c.Cost) || !slices.Equal(got.Ships, want) || e != api.OK {
				t.Errorf("Without(%v, %d) = %v, %d", c, ship, got, e)
			}
		}
	}
}

// P10.6: costs are submodular, and gains grow with sets.
func TestUnions(t *testing.T) {
	r := rand.New(rand.NewSource(106))
	for range 60 {
		c := someCanal(r, 5)
		sets := 1 << len(c.Ships)
		var costs, gains []int
		for set := range sets {
			cost, e := dues.CostOf(c, set)
			gain, f := dues.Gain(c, set)
			if e != api.OK || f != api.OK {
				t.Fatalf("CostOf and Gain of %v, %b: %d, %d", c, set, e, f)
			}
			costs, gains = append(costs, cost), append(gains, gain)
		}
		for one := range sets {
			for other := range sets {
				if costs[one|other]+costs[one&other] > costs[one]+costs[other] {
					t.Fatalf("%v: the sets %b and %b cost more together: %v", c, one, other, costs)
				}
				if gains[one&other] > gains[one] {
					t.Fatalf("%v: a part of %b gains more: %v", c, one, gains)
				}
			}
		}
	}
}

// results are those of all calls for a canal with at least one ship.
func results(c canal, order []int, shares []pair) []any {
	var list []any
	add := func(results ...any) { list = append(list, results...) }
	needed, e := dues.Needs(c, 0)
	add(needed, e)
	cost, e := dues.CostOf(c, 1)
	add(cost, e)
	equal, e := dues.Equal(c)
	add(equal, e)
	byOrder, e := dues.ByOrder(c, order)
	add(byOrder, e)
	average, e := dues.Average(c)
	add(average, e)
	set, fair, e := dues.IsFair(c, shares)
	add(set, fair, e)
	least, e := dues.Least(c, 0)
	add(least, e)
	greatest, e := dues.Greatest(c, 0)
	add(greatest, e)
	gain, e := dues.Gain(c, 1)
	add(gain, e)
	without, e := dues.Without(c, 0)
	add(without, e)
	pieces, e := dues.Pieces(c)
	add(pieces, e)
	power, e := dues.Power(c, 5)
	add(power, e)
	return list
}

// R4, R7: arguments stay as they are, what lies beyond their lengths, too, and the results are the same each time.
func TestArgumentsAreKept(t *testing.T) {
	order, shares := spare([]int{2, 0, 1}, -7), spare([]pair{{6, 1}, {4, 1}, {2, 1}}, pair{-7, -7})
	c := clone(line())
	first := results(c, order, shares)
	if again := results(c, order, shares); !reflect.DeepEqual(first, again) {
		t.Errorf("%v, and then %v", first, again)
	}
	for _, list := range [][]int{c.Up, c.Cost, c.Ships, order} {
		if n := len(list); list[:n+2][n] != -7 || list[:n+2][n+1] != -7 {
			t.Errorf("something was written beyond the length: %v", list[:n+2])
		}
	}
	if n := len(shares); shares[:n+2][n] != (pair{-7, -7}) || shares[:n+2][n+1] != (pair{-7, -7}) {
		t.Errorf("something was written beyond the length: %v", shares[:n+2])
	}
	if !reflect.DeepEqual(c, line()) || !slices.Equal(order, []int{2, 0, 1}) || !slices.Equal(shares, []pair{{6, 1}, {4, 1}, {2, 1}}) {
		t.Errorf("arguments were changed: %v, %v, %v", c, order, shares)
	}
}

// R4: results are new memory.
func TestResultsAreNew(t *testing.T) {
	for ship := range 3 {
		c := line()
		got, _ := dues.Without(c, ship)
		for _, list := range [][]int{got.Up, got.Cost, got.Ships} {
			for i := range list[:cap(list)] {
				list[:cap(list)][i] = 77
			}
		}
		if !reflect.DeepEqual(c, line()) {
			t.Errorf("Without(%d) shares memory with its argument: %v", ship, c)
		}
	}
	c, order := line(), []int{2, 0, 1}
	got, _ := dues.ByOrder(c, order)
	pieces, _ := dues.Pieces(c)
	clear(got)
	clear(pieces)
	if !reflect.DeepEqual(c, line()) || !slices.Equal(order, []int{2, 0, 1}) {
		t.Errorf("results share memory with arguments: %v, %v", c, order)
	}
}
