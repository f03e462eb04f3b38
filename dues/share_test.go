package dues_test

import (
	"math"
	"math/big"
	"math/rand"
	"slices"
	"testing"

	"careen/api"
	"careen/dues"
)

// allOrders are those of the ships 0 to n - 1.
func allOrders(n int) [][]int {
	if n == 0 {
		return [][]int{{}}
	}
	var list [][]int
	for _, shorter := range allOrders(n - 1) {
		for place := range n {
			list = append(list, slices.Insert(slices.Clone(shorter), place, n-1))
		}
	}
	return list
}

// byOrder goes through the pieces: the first ship in the order that needs one pays for it.
func byOrder(c canal, order []int) []int {
	shares := make([]int, len(c.Ships))
	for place, cost := range c.Cost {
		isNeeded := func(ship int) bool { return below(c, c.Ships[ship], place) }
		if first := slices.IndexFunc(order, isNeeded); first >= 0 {
			shares[order[first]] += cost
		}
	}
	return shares
}

// equal goes through the pieces: each ship that needs one pays the same.
func equal(c canal) []*big.Rat {
	shares := zeros(len(c.Ships))
	for place, cost := range c.Cost {
		var users []int
		for ship, berth := range c.Ships {
			if below(c, berth, place) {
				users = append(users, ship)
			}
		}
		for _, ship := range users {
			shares[ship].Add(shares[ship], big.NewRat(int64(cost), int64(len(users))))
		}
	}
	return shares
}

// power counts the orders in which a ship brings the cost above the limit.
func power(c canal, limit int) []*big.Rat {
	shares := zeros(len(c.Ships))
	orders := allOrders(len(c.Ships))
	for _, order := range orders {
		for n, ship := range order {
			if costOf(c, order[:n+1]...) > limit {
				shares[ship].Add(shares[ship], big.NewRat(1, int64(len(orders))))
				break
			}
		}
	}
	return shares
}

func zeros(n int) []*big.Rat {
	var list []*big.Rat
	for range n {
		list = append(list, new(big.Rat))
	}
	return list
}

// P10.2, P10.5: equal shares by their definition, and the average is the same.
func TestEqual(t *testing.T) {
	r := rand.New(rand.NewSource(102))
	for range 300 {
		c := someCanal(r, 7)
		want := fractions(equal(c))
		if got, e := dues.Equal(clone(c)); !slices.Equal(got, want) || e != api.OK {
			t.Fatalf("Equal(%v) = %v, %d, not %v", c, got, e, want)
		}
		if got, e := dues.Average(clone(c)); !slices.Equal(got, want) || e != api.OK {
			t.Fatalf("Average(%v) = %v, %d, not %v", c, got, e, want)
		}
	}
}

// P10.2: shares by each order, and their average, by the definition.
func TestOrders(t *testing.T) {
	r := rand.New(rand.NewSource(1022))
	for range 150 {
		c := someCanal(r, 6)
		orders := allOrders(len(c.Ships))
		average := zeros(len(c.Ships))
		for _, order := range orders {
			want := byOrder(c, order)
			if got, e := dues.ByOrder(clone(c), spare(order, -7)); !slices.Equal(got, want) || e != api.OK {
				t.Fatalf("ByOrder(%v, %v) = %v, %d, not %v", c, order, got, e, want)
			}
			for ship, share := range want {
				average[ship].Add(average[ship], big.NewRat(int64(share), int64(len(orders))))
			}
		}
		if got, e := dues.Average(clone(c)); !slices.Equal(got, fractions(average)) || e != api.OK {
			t.Fatalf("Average(%v) = %v, %d, not %v", c, got, e, average)
		}
	}
}

// P10.2: the examples, a fork, a single ship, none, and the greatest canal.
func TestShareExamples(t *testing.T) {
	alone := canal{[]int{-1, 0}, []int{0, 5}, []int{1}}
	free := canal{[]int{-1}, []int{0}, []int{0, 0}}
	for _, x := range []struct {
		c       canal
		equal   []pair
		order   []int
		byOrder []int
	}{
		{line(), []pair{{2, 1}, {4, 1}, {6, 1}}, []int{2, 0, 1}, []int{0, 0, 12}},
		{line(), []pair{{2, 1}, {4, 1}, {6, 1}}, []int{0, 1, 2}, []int{6, 4, 2}},
		{line(), []pair{{2, 1}, {4, 1}, {6, 1}}, []int{1, 2, 0}, []int{0, 10, 2}},
		{fork(), []pair{{7, 1}, {4, 1}, {6, 1}, {4, 1}}, []int{3, 2, 1, 0}, []int{1, 0, 7, 13}},
		{alone, []pair{{5, 1}}, []int{0}, []int{5}},
		{free, []pair{{0, 1}, {0, 1}}, []int{1, 0}, []int{0, 0}},
		{canal{[]int{-1}, []int{9}, nil}, nil, nil, nil},
		{largest(), []pair{{15350, 7}, {1000, 7}, {15350, 7}, {39050, 21}, {6500, 21}, {23300, 21}, {15350, 7}}, []int{1, 4, 5, 3, 6, 0, 2}, []int{0, 1000, 0, 3000, 1000, 4000, 1000}},
	} {
		got, e := dues.Equal(x.c)
		average, f := dues.Average(x.c)
		if !slices.Equal(got, x.equal) || !slices.Equal(average, x.equal) || e != api.OK || f != api.OK {
			t.Errorf("Equal and Average of %v: %v, %v, not %v", x.c, got, average, x.equal)
		}
		if shares, e := dues.ByOrder(x.c, x.order); !slices.Equal(shares, x.byOrder) || e != api.OK {
			t.Errorf("ByOrder(%v, %v) = %v, %d", x.c, x.order, shares, e)
		}
	}
}

// P10.1: ErrArg for an order that does not have each ship once.
func TestWrongOrders(t *testing.T) {
	for _, order := range [][]int{nil, {}, {0}, {0, 1}, {0, 1, 2, 0}, {0, 1, 2, 3}, {3, 1, 2}, {0, 0, 1}, {0, 1, 1}, {2, 1, 2}, {1, 2, 3}, {-1, 0, 1}, {0, 1, 2, -1}, {0, 1, 64}, {0, 1, -62}, {1 << 32, 1, 2}, {math.MaxInt, 1, 0}, {0, 1, math.MinInt}, make([]int, 1000)} {
		fails(t, api.ErrArg, map[string]outcome{"ByOrder": many(dues.ByOrder(line(), order))}, order)
	}
	none := canal{[]int{-1}, []int{1}, nil}
	for _, order := range [][]int{{0}, {-1}, {1, 0}} {
		fails(t, api.ErrArg, map[string]outcome{"ByOrder": many(dues.ByOrder(none, order))}, order)
	}
	for _, order := range [][]int{{0, 1, 2, 3, 4, 5, 5}, {0, 1, 2, 3, 4, 5}, {0, 1, 2, 3, 4, 5, 7}, {0, 1, 2, 3, 4, 5, 6, 6}} {
		fails(t, api.ErrArg, map[string]outcome{"ByOrder": many(dues.ByOrder(largest(), order))}, order)
	}
}

// P10.4: Power by the definition, at limits just below and at costs of sets, and above all.
func TestPower(t *testing.T) {
	r := rand.New(rand.NewSource(104))
	for range 60 {
		c := someCanal(r, 5)
		set := r.Intn(1 << len(c.Ships))
		cost := costOf(c, members(set)...)
		for _, limit := range []int{0, max(0, cost-1), cost, r.Intn(30), 10000} {
			want := fractions(power(c, limit))
			if got, e := dues.Power(clone(c), limit); !slices.Equal(got, want) || e != api.OK {
				t.Fatalf("Power(%v, %d) = %v, %d, not %v", c, limit, got, e, want)
			}
		}
	}
	if got, e := dues.Power(largest(), 6000); !slices.Equal(got, fractions(power(largest(), 6000))) || e != api.OK {
		t.Errorf("Power: %v, %d", got, e)
	}
}

// P10.4: the example, the limits of the limit, and canals without ships or costs.
func TestPowerExamples(t *testing.T) {
	free := canal{[]int{-1}, []int{0}, []int{0, 0}}
	for _, x := range []struct {
		c     canal
		limit int
		want  []pair
	}{
		{line(), 10, []pair{{0, 1}, {0, 1}, {1, 1}}},
		{line(), 11, []pair{{0, 1}, {0, 1}, {1, 1}}},
		{line(), 9, []pair{{0, 1}, {1, 2}, {1, 2}}},
		{line(), 5, []pair{{1, 3}, {1, 3}, {1, 3}}},
		{line(), 0, []pair{{1, 3}, {1, 3}, {1, 3}}},
		{line(), 12, []pair{{0, 1}, {0, 1}, {0, 1}}},
		{line(), 10000, []pair{{0, 1}, {0, 1}, {0, 1}}},
		{free, 0, []pair{{0, 1}, {0, 1}}},
		{canal{[]int{-1}, []int{9}, nil}, 0, nil},
		{largest(), 9999, []pair{{1, 3}, {0, 1}, {1, 3}, {0, 1}, {0, 1}, {0, 1}, {1, 3}}},
		{largest(), 10000, []pair{{0, 1}, {0, 1}, {0, 1}, {0, 1}, {0, 1}, {0, 1}, {0, 1}}},
	} {
		if got, e := dues.Power(x.c, x.limit); !slices.Equal(got, x.want) || e != api.OK {
			t.Errorf("Power(%v, %d) = %v, %d, not %v", x.c, x.limit, got, e, x.want)
		}
	}
	for _, limit := range []int{-1, 10001, 1 << 32, -1 << 32, math.MaxInt, math.MinInt} {
		for _, c := range []canal{line(), free, {[]int{-1}, []int{9}, nil}} {
			fails(t, api.ErrArg, map[string]outcome{"Power": many(dues.Power(c, limit))}, c, limit)
		}
	}
}
