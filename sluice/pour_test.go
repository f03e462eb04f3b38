package sluice_test

import (
	"math"
	"math/big"
	"math/rand"
	"slices"
	"testing"

	"careen/api"
	"careen/sluice"
)

// poured is what should be what comes of pouring amounts.
type poured struct {
	b       basins
	amounts []int
	levels  []*big.Rat
	lost    int64
}

func pouredFrom(b basins, amounts []int, levels []pair, lost int64) poured {
	p := poured{b: b, amounts: amounts, lost: lost}
	for _, level := range levels {
		p.levels = append(p.levels, rat(level))
	}
	return p
}

// stands is how much water a basin has by its level.
func (p poured) stands(basin int) *big.Rat {
	high := new(big.Rat).Sub(p.levels[basin], whole(p.b.Floor[basin]))
	return high.Mul(high, whole(p.b.Area[basin]))
}

// obeys returns whether the levels, and what is lost, are those after pouring, by the definition.
func (p poured) obeys() bool {
	if len(p.levels) != len(p.b.Area) {
		return false
	}
	for basin, level := range p.levels {
		if level.Cmp(whole(p.b.Floor[basin])) < 0 {
			return false
		}
	}
	return p.areQuiet() && p.haveFlows()
}

// areQuiet returns whether the levels are such that no more water has to flow.
func (p poured) areQuiet() bool {
	sea := len(p.b.Area)
	for _, s := range p.b.Sills {
		height := whole(s[2])
		one := p.levels[s[0]]
		if s[1] == sea {
			if one.Cmp(height) > 0 {
				return false
			}
			continue
		}
		other := p.levels[s[1]]
		if (one.Cmp(height) > 0 || other.Cmp(height) > 0) && one.Cmp(other) != 0 {
			return false
		}
	}
	return true
}

// haveFlows returns whether there are flows. There are, if all that was poured is somewhere, and no set of places that water can not leave has less than was poured into it.
func (p poured) haveFlows() bool {
	sea := len(p.b.Area)
	lacks := make([]*big.Rat, sea+1)
	all := new(big.Rat)
	for i := range sea {
		lacks[i] = new(big.Rat).Sub(p.stands(i), whole(p.amounts[i]))
		all.Add(all, lacks[i])
	}
	lacks[sea] = big.NewRat(p.lost, 1)
	if all.Add(all, lacks[sea]).Sign() != 0 {
		return false
	}
	leads := p.leads()
	for set := range 1 << (sea + 1) {
		into := new(big.Rat)
		canLeave := false
		for i := range sea + 1 {
			if set>>i&1 == 1 {
				canLeave = canLeave || leads[i]&^set != 0
			}
		}
		if canLeave {
			continue
		}
		for i := range sea + 1 {
			if set>>i&1 == 1 {
				into.Add(into, lacks[i])
			}
		}
		if into.Sign() < 0 {
			return false
		}
	}
	return true
}

// leads are the sets of places to which water can flow from each.
func (p poured) leads() []int {
	sea := len(p.b.Area)
	sets := make([]int, sea+1)
	for _, s := range p.b.Sills {
		height := whole(s[2])
		if p.levels[s[0]].Cmp(height) >= 0 {
			sets[s[0]] |= 1 << s[1]
		}
		if s[1] < sea && p.levels[s[1]].Cmp(height) >= 0 {
			sets[s[1]] |= 1 << s[0]
		}
	}
	return sets
}

// pools are those by the definition.
func (p poured) pools() [][]int {
	var pools [][]int
	done := map[int]bool{}
	for basin, level := range p.levels {
		if done[basin] {
			continue
		}
		pool := []int{basin}
		for k := 0; k < len(pool); k++ {
			done[pool[k]] = true
			for _, s := range p.b.Sills {
				for _, way := range [][2]int{{s[0], s[1]}, {s[1], s[0]}} {
					if way[0] == pool[k] && s[1] < len(p.b.Area) && level.Cmp(whole(s[2])) > 0 && !slices.Contains(pool, way[1]) {
						pool = append(pool, way[1])
					}
				}
			}
		}
		slices.Sort(pool)
		if len(pool) > 1 {
			pools = append(pools, pool)
		}
	}
	return pools
}

// areLowest returns whether fractions are in lowest terms, and not negative.
func areLowest(list []pair) bool {
	return !slices.ContainsFunc(list, func(f pair) bool {
		return f[1] < 1 || f[0] < 0 || f[0] != rat(f).Num().Int64() || f[1] != rat(f).Denom().Int64()
	})
}

// check holds all calls with basins and amounts against the definition.
func check(t *testing.T, b basins, amounts []int) {
	t.Helper()
	levels, lost, e := sluice.Pour(b, amounts)
	if e != api.OK || !areLowest(levels) {
		t.Fatalf("Pour(%v, %v) = %v, %d, %d", b, amounts, levels, lost, e)
	}
	p := pouredFrom(b, amounts, levels, lost)
	if !p.obeys() {
		t.Fatalf("Pour(%v, %v) = %v, %d", b, amounts, levels, lost)
	}
	if is, e := sluice.AreLevels(b, amounts, levels, lost); !is || e != api.OK {
		t.Fatalf("AreLevels(%v, %v, %v, %d) = %t, %d", b, amounts, levels, lost, is, e)
	}
	if pools, e := sluice.Pools(b, amounts); !slices.EqualFunc(pools, p.pools(), slices.Equal) || e != api.OK {
		t.Fatalf("Pools(%v, %v) = %v, %d, not %v", b, amounts, pools, e, p.pools())
	}
	stored, e := sluice.Stored(b, amounts)
	if len(stored) != len(levels) || !areLowest(stored) || e != api.OK {
		t.Fatalf("Stored(%v, %v) = %v, %d", b, amounts, stored, e)
	}
	all := new(big.Rat)
	for i, f := range stored {
		if all.Add(all, rat(f)); rat(f).Cmp(p.stands(i)) != 0 {
			t.Fatalf("Stored(%v, %v) = %v", b, amounts, stored)
		}
	}
	if total, e := sluice.Total(b, amounts); big.NewRat(total, 1).Cmp(all) != 0 || total+lost != sum(amounts) || e != api.OK {
		t.Fatalf("Total(%v, %v) = %d, %d, beside %d", b, amounts, total, e, lost)
	}
}

// smallBasins are two with all sills up to a height, each way at most once.
func smallBasins(yield func(b basins)) {
	for code := range 4 * 9 {
		area, floor := []int{1 + code&1, 1 + code>>1&1}, []int{code / 4 % 3, code / 12}
		for heights := range 5 * 5 * 5 {
			b := basins{Area: area, Floor: floor}
			for k, way := range [][2]int{{0, 1}, {0, 2}, {1, 2}} {
				if height := heights / []int{1, 5, 25}[k] % 5; height > 0 {
					b.Sills = append(b.Sills, sill{way[0], way[1], height})
				}
			}
			if sluice.Check(b) == api.OK {
				yield(b)
			}
		}
	}
}

// P9.2, P9.5: all calls by their definitions, for all small cases of two basins.
func TestSmall(t *testing.T) {
	count := 0
	smallBasins(func(b basins) {
		for _, amounts := range [][]int{{0, 0}, {1, 0}, {2, 0}, {3, 0}, {4, 1}, {1, 2}, {5, 0}, {6, 0}, {0, 3}, {0, 7}, {9, 9}, {0, 4}, {2, 2}, {4, 4}} {
			count++
			check(t, b, amounts)
		}
	})
	if count < 10000 {
		t.Errorf("only %d", count)
	}
}

// P9.2, P9.5: the same for random ones of up to eight basins.
func TestPour(t *testing.T) {
	r := rand.New(rand.NewSource(92))
	pools := 0
	for range 8000 {
		b := someBasins(r)
		amounts := someAmounts(r, b)
		check(t, b, amounts)
		list, _ := sluice.Pools(b, amounts)
		pools += len(list)
	}
	if pools < 1000 {
		t.Errorf("only %d pools", pools)
	}
}

// P9.2 (W2): there are no other levels by the definition, among all sixths.
func TestOnly(t *testing.T) {
	r := rand.New(rand.NewSource(922))
	count := 0
	smallBasins(func(b basins) {
		if r.Intn(30) > 0 {
			return
		}
		amounts := []int{r.Intn(8), r.Intn(8)}
		levels, _, _ := sluice.Pour(b, amounts)
		for one := 6 * b.Floor[0]; one < 60; one++ {
			for other := 6 * b.Floor[1]; other < 60; other++ {
				others := []pair{{int64(one), 6}, {int64(other), 6}}
				p := pouredFrom(b, amounts, others, 0)
				left := new(big.Rat).Sub(whole(int(sum(amounts))), new(big.Rat).Add(p.stands(0), p.stands(1)))
				if p.lost = left.Num().Int64(); !left.IsInt() || !p.obeys() {
					continue
				}
				count++
				if p.levels[0].Cmp(rat(levels[0])) != 0 || p.levels[1].Cmp(rat(levels[1])) != 0 {
					t.Fatalf("Pour(%v, %v) = %v, but also %v", b, amounts, levels, others)
				}
			}
		}
	})
	if count < 10 {
		t.Errorf("only %d", count)
	}
}

// near are lists of levels that differ from some, and what was lost.
func near(levels []pair, lost int64, yield func([]pair, int64)) {
	for i := range levels {
		f := levels[i]
		for _, other := range []pair{{f[0] + 1, f[1]}, {f[0] - 1, f[1]}, {f[0], f[1] + 1}, {2 * f[0], 2 * f[1]}, {-f[0] - 1, -f[1]}, {-f[0], -f[1]}, {f[0] + f[1], f[1]}, {f[0], 0}, {f[0], -f[1]}, {math.MaxInt64, 1}, {math.MinInt64, -1}, {f[0] + 1<<32, f[1]}, {f[0], f[1] + 1<<32}, {f[0], math.MinInt64}, {f[1], f[0] - f[1]}} {
			if other != f {
				list := slices.Clone(levels)
				list[i] = other
				yield(list, lost)
			}
		}
	}
	yield(levels[1:], lost)
	yield(append(slices.Clone(levels), levels[0]), lost)
	yield(append(slices.Clone(levels), pair{0, 1}), lost)
	yield(nil, lost)
	for _, other := range []int64{lost + 1, lost - 1, -lost - 1, lost + 1<<32, math.MaxInt64, math.MinInt64} {
		yield(levels, other)
	}
}

// P9.2: AreLevels is true for what Pour returns and false for all else, fractions that are not in lowest terms among them.
func TestAreLevels(t *testing.T) {
	r := rand.New(rand.NewSource(921))
	for range 200 {
		b := someBasins(r)
		amounts := someAmounts(r, b)
		levels, lost, _ := sluice.Pour(b, amounts)
		near(levels, lost, func(other []pair, less int64) {
			if is, e := sluice.AreLevels(b, amounts, other, less); is || e != api.OK {
				t.Fatalf("AreLevels(%v, %v, %v, %d) = %t, %d, beside %v, %d", b, amounts, other, less, is, e, levels, lost)
			}
		})
	}
}

// added is the sums of both.
func added(one, other []int) []int {
	list := slices.Clone(one)
	for i := range list {
		list[i] += other[i]
	}
	return list
}

// P9.2, P9.5: More returns what comes of both together, whatever is poured first; more water nowhere lowers a level.
func TestMore(t *testing.T) {
	r := rand.New(rand.NewSource(95))
	large := 0
	for range 1000 {
		b := someBasins(r)
		first, then := someAmounts(r, b), someAmounts(r, b)
		levels, lost, e := sluice.More(b, first, then)
		if e != api.OK || !areLowest(levels) {
			t.Fatalf("More(%v, %v, %v) = %v, %d, %d", b, first, then, levels, lost, e)
		}
		all := added(first, then)
		if !pouredFrom(b, all, levels, lost).obeys() {
			t.Fatalf("More(%v, %v, %v) = %v, %d", b, first, then, levels, lost)
		}
		turned, again, _ := sluice.More(b, then, first)
		if !slices.Equal(turned, levels) || again != lost {
			t.Fatalf("More(%v, %v, %v) = %v, %d, not %v, %d", b, then, first, turned, again, levels, lost)
		}
		if slices.Max(all) > most {
			large++
		} else if is, e := sluice.AreLevels(b, all, levels, lost); !is || e != api.OK {
			t.Fatalf("AreLevels(%v, %v, %v, %d) = %t, %d", b, all, levels, lost, is, e)
		}
		before, less, _ := sluice.Pour(b, first)
		for i := range levels {
			if rat(before[i]).Cmp(rat(levels[i])) > 0 || less > lost {
				t.Fatalf("More(%v, %v, %v) = %v, %d, before %v, %d", b, first, then, levels, lost, before, less)
			}
		}
	}
	if large < 20 {
		t.Errorf("only %d beyond what is poured at once", large)
	}
}

// P9.5 (W5): the order of pouring does not matter: part of each amount first, or one basin's after the other's.
func TestOrder(t *testing.T) {
	r := rand.New(rand.NewSource(955))
	for range 1000 {
		b := someBasins(r)
		amounts := someAmounts(r, b)
		first, then := make([]int, len(amounts)), slices.Clone(amounts)
		for i := range amounts {
			first[i] = r.Intn(amounts[i] + 1)
			if r.Intn(2) == 0 {
				first[i] = r.Intn(2) * amounts[i]
			}
			then[i] -= first[i]
		}
		levels, lost, e := sluice.More(b, first, then)
		if is, f := sluice.AreLevels(b, amounts, levels, lost); !is || e+f != api.OK {
			t.Fatalf("More(%v, %v, %v) = %v, %d, %d", b, first, then, levels, lost, e)
		}
	}
}

// alone is an amount in one basin.
func alone(b basins, basin, amount int) []int {
	amounts := make([]int, len(b.Area))
	amounts[basin] = amount
	return amounts
}

// P9.4, P9.7: nothing is lost of what there is room for, whose level is at most the lip to the sea, and something of more.
func TestRoom(t *testing.T) {
	r := rand.New(rand.NewSource(97))
	none, nothing := 0, 0
	for range 2000 {
		b := someBasins(r)
		basin := r.Intn(len(b.Area))
		room, e := sluice.Room(b, basin)
		height, is := lip(b, basin, len(b.Area))
		if !is {
			none++
			if room != 0 || e != api.ErrNone {
				t.Fatalf("Room(%v, %d) = %d, %d", b, basin, room, e)
			}
			continue
		}
		if room == 0 {
			nothing++
		}
		levels, lost, f := sluice.Pour(b, alone(b, basin, int(room)))
		_, more, g := sluice.Pour(b, alone(b, basin, int(room)+1))
		if lost != 0 || more != 1 || rat(levels[basin]).Cmp(whole(height)) > 0 || e+f+g != api.OK {
			t.Fatalf("Room(%v, %d) = %d, %d: %d and %d are lost", b, basin, room, e, lost, more)
		}
	}
	if none < 100 || nothing < 20 {
		t.Errorf("only %d without a way to the sea, and %d without room", none, nothing)
	}
}

// P9.4: Wet returns the basins whose level is above their floor.
func TestWet(t *testing.T) {
	r := rand.New(rand.NewSource(941))
	for range 2000 {
		b := someBasins(r)
		basin := r.Intn(len(b.Area))
		amount := slices.Max(someAmounts(r, b))
		levels, _, _ := sluice.Pour(b, alone(b, basin, amount))
		var want []int
		for i, level := range levels {
			if level != (pair{int64(b.Floor[i]), 1}) {
				want = append(want, i)
			}
		}
		if wet, e := sluice.Wet(b, basin, amount); !slices.Equal(wet, want) || e != api.OK {
			t.Fatalf("Wet(%v, %d, %d) = %v, %d, not %v", b, basin, amount, wet, e, want)
		}
	}
}

// P9.2: the examples, and edges of the definition.
func TestPourExamples(t *testing.T) {
	two := row(2, sill{0, 1, 5})
	sea := row(2, sill{0, 1, 5}, sill{1, 2, 2})
	dry := basins{[]int{1, 1, 2}, []int{0, 5, 1}, []sill{{0, 1, 6}, {1, 2, 5}}}
	circle := row(3, sill{0, 1, 5}, sill{0, 2, 7}, sill{1, 2, 6})
	pairs := row(4, sill{0, 2, 2}, sill{1, 3, 3})
	tall := row(8)
	for _, c := range []struct {
		name    string
		b       basins
		amounts []int
		levels  []pair
		lost    int64
		pools   [][]int
	}{
		{"over the sill", two, []int{8, 0}, []pair{{5, 1}, {3, 1}}, 0, nil},
		{"one pool", two, []int{12, 0}, []pair{{6, 1}, {6, 1}}, 0, [][]int{{0, 1}}},
		{"to the sea", sea, []int{12, 0}, []pair{{5, 1}, {2, 1}}, 5, nil},
		{"both just full", two, []int{10, 0}, []pair{{5, 1}, {5, 1}}, 0, nil},
		{"halves", two, []int{0, 11}, []pair{{11, 2}, {11, 2}}, 0, [][]int{{0, 1}}},
		{"nothing", two, []int{0, 0}, []pair{{0, 1}, {0, 1}}, 0, nil},
		{"through a dry basin", dry, []int{10, 0, 0}, []pair{{6, 1}, {5, 1}, {3, 1}}, 0, nil},
		{"a dry basin that fills", dry, []int{16, 0, 0}, []pair{{6, 1}, {17, 3}, {17, 3}}, 0, [][]int{{1, 2}}},
		{"in a circle", circle, []int{16, 0, 1}, []pair{{6, 1}, {6, 1}, {5, 1}}, 0, [][]int{{0, 1}}},
		{"in a circle, more", circle, []int{20, 0, 1}, []pair{{7, 1}, {7, 1}, {7, 1}}, 0, [][]int{{0, 1, 2}}},
		{"two pools", pairs, []int{9, 0, 0, 8}, []pair{{9, 2}, {4, 1}, {9, 2}, {4, 1}}, 0, [][]int{{0, 2}, {1, 3}}},
		{"towers of water", tall, slices.Repeat([]int{most}, 8), slices.Repeat([]pair{{most, 1}}, 8), 0, nil},
	} {
		levels, lost, e := sluice.Pour(c.b, c.amounts)
		if !slices.Equal(levels, c.levels) || lost != c.lost || e != api.OK {
			t.Errorf("%s: %v, %d, %d", c.name, levels, lost, e)
		}
		pools, e := sluice.Pools(c.b, c.amounts)
		if !slices.EqualFunc(pools, c.pools, slices.Equal) || e != api.OK {
			t.Errorf("%s: pools %v, %d", c.name, pools, e)
		}
	}
	if room, e := sluice.Room(sea, 0); room != 7 || e != api.OK {
		t.Errorf("Room(%v, 0) = %d, %d", sea, room, e)
	}
}
