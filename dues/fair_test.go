package dues_test

import (
	"math"
	"math/big"
	"math/rand"
	"slices"
	"testing"

	"careen/api"
	"careen/dues"
)

const mostNumerator = 1_000_000_000

// judged is what IsFair should return, by the definition.
func judged(c canal, shares []pair) (int, bool) {
	total := new(big.Rat)
	negative := false
	for _, share := range shares {
		total.Add(total, rat(share))
		negative = negative || share[0] < 0
	}
	for set := range 1 << len(shares) {
		paid := new(big.Rat)
		for _, ship := range members(set) {
			paid.Add(paid, rat(shares[ship]))
		}
		if paid.Cmp(whole(costOf(c, members(set)...))) > 0 {
			return set, false
		}
	}
	return 0, !negative && total.Cmp(whole(costOf(c, members(1<<len(shares)-1)...))) == 0
}

// someShares are mixed from those by orders, in most cases with a part moved from one ship to another one, or changed.
func someShares(r *rand.Rand, c canal) []pair {
	n := len(c.Ships)
	shares := zeros(n)
	parts := []int64{1, 2, 3, 4, 5, 6, 7, 8, 10}[r.Intn(9)]
	for range parts {
		for ship, share := range byOrder(c, r.Perm(n)) {
			shares[ship].Add(shares[ship], big.NewRat(int64(share), parts))
		}
	}
	move := func(ship int, by *big.Rat) {
		if sum := new(big.Rat).Add(shares[ship], by); 5040%sum.Denom().Int64() == 0 {
			shares[ship] = sum
		}
	}
	for range r.Intn(3) {
		if n == 0 {
			break
		}
		by := big.NewRat(int64(r.Intn(9)-4), []int64{1, 2, 3, 5040}[r.Intn(4)])
		move(r.Intn(n), by)
		if r.Intn(4) > 0 {
			move(r.Intn(n), by.Neg(by))
		}
	}
	return fractions(shares)
}

// P10.3: IsFair by the definition.
func TestIsFair(t *testing.T) {
	r := rand.New(rand.NewSource(103))
	var fairOnes, over, under int
	for range 3000 {
		c := someCanal(r, 7)
		shares := someShares(r, c)
		set, fair := judged(c, shares)
		got, is, e := dues.IsFair(clone(c), spare(shares, pair{-7, -7}))
		if got != set || is != fair || e != api.OK {
			t.Fatalf("IsFair(%v, %v) = %b, %t, %d, not %b, %t", c, shares, got, is, e, set, fair)
		}
		switch {
		case fair:
			fairOnes++
		case set != 0:
			over++
		default:
			under++
		}
	}
	if min(fairOnes, over, under) < 100 {
		t.Errorf("only %d fair lists, %d that pay too much, %d others", fairOnes, over, under)
	}
}

// P10.3: IsFair for all small numbers of a few small canals.
func TestIsFairSmall(t *testing.T) {
	for _, c := range []canal{
		{[]int{-1}, []int{1}, []int{0, 0}},
		{[]int{-1}, []int{0}, []int{0, 0, 0}},
		{[]int{-1, 0}, []int{1, 1}, []int{0, 1}},
		{[]int{-1, 0}, []int{0, 1}, []int{1, 0, 1}},
		{[]int{-1, 0, 0}, []int{1, 1, 1}, []int{1, 2, 0}},
	} {
		for _, shares := range smallShares(len(c.Ships), -3, 6, 2) {
			set, fair := judged(c, shares)
			if got, is, e := dues.IsFair(c, shares); got != set || is != fair || e != api.OK {
				t.Fatalf("IsFair(%v, %v) = %b, %t, %d, not %b, %t", c, shares, got, is, e, set, fair)
			}
		}
	}
}

// smallShares are all lists of so many shares from least / under to greatest / under.
func smallShares(n, least, greatest, under int) [][]pair {
	if n == 0 {
		return [][]pair{nil}
	}
	var list [][]pair
	for _, shorter := range smallShares(n-1, least, greatest, under) {
		for top := least; top <= greatest; top++ {
			last := fractions([]*big.Rat{big.NewRat(int64(top), int64(under))})
			list = append(list, append(slices.Clone(shorter), last...))
		}
	}
	return list
}

// P10.3: the examples, the least of several sets, shares below 0, sums that are too small, and great numerators.
func TestIsFairExamples(t *testing.T) {
	one := canal{[]int{-1}, []int{9}, nil}
	fleet := canal{[]int{-1}, []int{7}, make([]int, 7)}
	for _, x := range []struct {
		c      canal
		shares []pair
		set    int
		fair   bool
	}{
		{line(), []pair{{6, 1}, {4, 1}, {2, 1}}, 0, true},
		{line(), []pair{{7, 1}, {4, 1}, {1, 1}}, 1, false},
		{line(), []pair{{2, 1}, {4, 1}, {6, 1}}, 0, true},
		{line(), []pair{{0, 1}, {0, 1}, {12, 1}}, 0, true},
		{line(), []pair{{1, 2}, {19, 2}, {2, 1}}, 0, true},
		{line(), []pair{{1, 2}, {48, 5}, {19, 10}}, 3, false},
		{line(), []pair{{1, 5040}, {4, 1}, {40319, 5040}}, 0, true},
		{line(), []pair{{1, 5040}, {4, 1}, {8, 1}}, 7, false},
		{line(), []pair{{6, 1}, {4, 1}, {13, 1}}, 4, false},
		{line(), []pair{{3, 1}, {11, 1}, {13, 1}}, 2, false},
		{line(), []pair{{6, 1}, {5, 1}, {1, 1}}, 3, false},
		{line(), []pair{{-1, 1}, {5, 1}, {8, 1}}, 6, false},
		{line(), []pair{{-1, 1}, {1, 1}, {12, 1}}, 6, false},
		{line(), []pair{{-1, 1}, {5, 1}, {7, 1}}, 0, false},
		{line(), []pair{{0, 1}, {0, 1}, {0, 1}}, 0, false},
		{line(), []pair{{6, 1}, {4, 1}, {1, 1}}, 0, false},
		{line(), []pair{{6, 1}, {4, 1}, {10079, 5040}}, 0, false},
		{line(), []pair{{6, 1}, {4, 1}, {10081, 5040}}, 7, false},
		{line(), []pair{{mostNumerator, 1}, {-mostNumerator, 1}, {12, 1}}, 1, false},
		{line(), []pair{{-mostNumerator, 1}, {mostNumerator, 1}, {12, 1}}, 2, false},
		{line(), []pair{{-mostNumerator, 1}, {-mostNumerator, 1}, {-mostNumerator, 1}}, 0, false},
		{fleet, slices.Repeat([]pair{{1, 1}}, 7), 0, true},
		{fleet, slices.Repeat([]pair{{8, 7}}, 7), 127, false},
		{fleet, append(slices.Repeat([]pair{{0, 1}}, 6), pair{7, 1}), 0, true},
		{fleet, append(slices.Repeat([]pair{{0, 1}}, 6), pair{mostNumerator, 1}), 64, false},
		{fleet, append(slices.Repeat([]pair{{-mostNumerator, 1}}, 6), pair{-999999999, 5}), 0, false},
		{one, nil, 0, true},
		{one, []pair{}, 0, true},
	} {
		if set, fair, e := dues.IsFair(x.c, x.shares); set != x.set || fair != x.fair || e != api.OK {
			t.Errorf("IsFair(%v, %v) = %b, %t, %d", x.c, x.shares, set, fair, e)
		}
	}
}

// P10.3: ErrArg for what is no share list, or has too great a numerator.
func TestWrongShares(t *testing.T) {
	for _, wrong := range []pair{{6, 0}, {0, 0}, {1, 0}, {6, -1}, {-6, -1}, {0, -1}, {0, 2}, {0, 5040}, {2, 2}, {12, 2}, {-2, 2}, {-6, 4}, {10, 5}, {4, 6}, {5040, 5040}, {1, 11}, {1, 13}, {1, 25}, {1, 27}, {1, 32}, {1, 49}, {1, 10080}, {1, 5041}, {1, math.MaxInt64}, {1, math.MinInt64}, {math.MinInt64, 1}, {math.MaxInt64, 1}, {math.MinInt64, math.MinInt64}, {math.MinInt64, -1}, {mostNumerator + 1, 1}, {-mostNumerator - 1, 1}, {mostNumerator + 1, 2}, {-mostNumerator - 1, 7}, {1 << 32, 1}, {1<<32 + 1, 1}, {6, 1<<32 + 1}, {-1 << 32, 1}, {-1<<32 + 6, 1}} {
		for place := range 3 {
			shares := []pair{{6, 1}, {4, 1}, {2, 1}}
			shares[place] = wrong
			fails(t, api.ErrArg, map[string]outcome{"IsFair": verdict(dues.IsFair(line(), shares))}, shares)
		}
	}
	for _, n := range []int{0, 1, 2, 4, 7, 100} {
		shares := slices.Repeat([]pair{{4, 1}}, n)
		fails(t, api.ErrArg, map[string]outcome{"IsFair": verdict(dues.IsFair(line(), shares))}, shares)
	}
	none := canal{[]int{-1}, []int{9}, nil}
	fails(t, api.ErrArg, map[string]outcome{"IsFair": verdict(dues.IsFair(none, []pair{{0, 1}}))})
}

// P10.3: each divisor of 5040 is a denominator, and no other number is.
func TestDenominators(t *testing.T) {
	c := canal{[]int{-1}, []int{1}, []int{0}}
	for under := range int64(5100) {
		want := api.ErrArg
		if under > 0 && 5040%under == 0 {
			want = api.OK
		}
		if set, fair, e := dues.IsFair(c, []pair{{1, under}}); set != 0 || fair != (under == 1) || e != want {
			t.Errorf("IsFair of 1/%d: %d, %t, %d", under, set, fair, e)
		}
	}
}

// P10.3: Least and Greatest by the definition: of all fair lists of halves and thirds in small canals.
func TestLeastAndGreatest(t *testing.T) {
	for _, c := range []canal{
		{[]int{-1}, []int{2}, []int{0}},
		{[]int{-1}, []int{0}, []int{0, 0}},
		{[]int{-1}, []int{2}, []int{0, 0, 0}},
		{[]int{-1, 0}, []int{1, 1}, []int{0, 1}},
		{[]int{-1, 0}, []int{2, 1}, []int{1, 0, 0}},
		{[]int{-1, 0, 0}, []int{1, 1, 2}, []int{1, 2}},
		{[]int{-1, 0, 0}, []int{1, 1, 1}, []int{1, 2, 0}},
		{[]int{-1, 0, 1}, []int{1, 1, 1}, []int{2, 1, 0}},
	} {
		for _, under := range []int{2, 3} {
			leastOnes, greatestOnes := extremes(c, under)
			for ship := range c.Ships {
				least, e := dues.Least(clone(c), ship)
				greatest, f := dues.Greatest(clone(c), ship)
				if least != leastOnes[ship] || greatest != greatestOnes[ship] || e != api.OK || f != api.OK {
					t.Errorf("Least and Greatest of %v, %d: %v, %v, not %v, %v", c, ship, least, greatest, leastOnes[ship], greatestOnes[ship])
				}
			}
		}
	}
}

// extremes are the least and the greatest shares of fair lists with such parts, of which none is greater than the cost of all.
func extremes(c canal, under int) ([]pair, []pair) {
	n := len(c.Ships)
	cost := costOf(c, members(1<<n-1)...)
	var least, greatest []pair
	for _, shares := range smallShares(n, 0, cost*under, under) {
		if _, fair := judged(c, shares); !fair {
			continue
		}
		if least == nil {
			least, greatest = slices.Clone(shares), slices.Clone(shares)
		}
		for ship, share := range shares {
			if rat(share).Cmp(rat(least[ship])) < 0 {
				least[ship] = share
			}
			if rat(share).Cmp(rat(greatest[ship])) > 0 {
				greatest[ship] = share
			}
		}
	}
	return least, greatest
}

// P10.3, P10.5, P10.7: Equal and all ByOrder are fair; Least and Greatest are those of them, and the differences of costs; without a ship no other one's equal share falls.
func TestFairLists(t *testing.T) {
	r := rand.New(rand.NewSource(1057))
	for range 100 {
		c := someCanal(r, 5)
		n := len(c.Ships)
		shares, _ := dues.Equal(c)
		isFair(t, c, shares)
		least, greatest := slices.Repeat([]int{math.MaxInt}, n), make([]int, n)
		for _, order := range allOrders(n) {
			paid, _ := dues.ByOrder(c, order)
			var list []pair
			for ship, share := range paid {
				list = append(list, pair{int64(share), 1})
				least[ship] = min(least[ship], share)
				greatest[ship] = max(greatest[ship], share)
			}
			isFair(t, c, list)
		}
		for ship := range n {
			all := 1<<n - 1
			low, e := dues.Least(c, ship)
			high, f := dues.Greatest(c, ship)
			if low != (pair{int64(least[ship]), 1}) || high != (pair{int64(greatest[ship]), 1}) || e != api.OK || f != api.OK {
				t.Fatalf("Least and Greatest of %v, %d: %v, %v", c, ship, low, high)
			}
			if costOf(c, members(all)...)-costOf(c, members(all&^(1<<ship))...) != least[ship] || costOf(c, ship) != greatest[ship] {
				t.Fatalf("%v: the costs of ship %d are not %v, %v", c, ship, low, high)
			}
			withoutFalls(t, c, ship, shares)
		}
	}
}

func isFair(t *testing.T, c canal, shares []pair) {
	t.Helper()
	if set, fair, e := dues.IsFair(c, shares); set != 0 || !fair || e != api.OK {
		t.Fatalf("IsFair(%v, %v) = %b, %t, %d", c, shares, set, fair, e)
	}
}

// withoutFalls fails if the equal share of another ship is less without the ship.
func withoutFalls(t *testing.T, c canal, ship int, shares []pair) {
	t.Helper()
	fewer, e := dues.Without(c, ship)
	after, f := dues.Equal(fewer)
	before := slices.Delete(slices.Clone(shares), ship, ship+1)
	if len(after) != len(before) || e != api.OK || f != api.OK {
		t.Fatalf("Without(%v, %d) = %v, %d", c, ship, fewer, e)
	}
	for other := range after {
		if rat(after[other]).Cmp(rat(before[other])) < 0 {
			t.Fatalf("%v: without ship %d, %v falls to %v", c, ship, before, after)
		}
	}
}

// P10.3: the examples, a fork and the greatest canal.
func TestLeastAndGreatestExamples(t *testing.T) {
	for _, x := range []struct {
		c               canal
		ship            int
		least, greatest int64
	}{
		{line(), 0, 0, 6}, {line(), 1, 0, 10}, {line(), 2, 2, 12},
		{fork(), 0, 1, 18}, {fork(), 1, 0, 13}, {fork(), 2, 0, 17}, {fork(), 3, 0, 13},
		{largest(), 0, 0, 10000}, {largest(), 1, 0, 1000},
		{canal{[]int{-1}, []int{1000}, []int{0}}, 0, 1000, 1000},
		{canal{[]int{-1}, []int{0}, []int{0}}, 0, 0, 0},
	} {
		least, e := dues.Least(x.c, x.ship)
		greatest, f := dues.Greatest(x.c, x.ship)
		if least != (pair{x.least, 1}) || greatest != (pair{x.greatest, 1}) || e != api.OK || f != api.OK {
			t.Errorf("Least and Greatest of %v: %v, %v", x, least, greatest)
		}
	}
}
