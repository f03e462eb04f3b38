package sluice_test

import (
	"math"
	"math/big"
	"math/rand"
	"reflect"
	"slices"
	"testing"

	"careen/api"
	"careen/sluice"
)

const most = 1_000_000

type (
	basins = sluice.Basins
	sill   = [3]int
	pair   = [2]int64
)

// row is basins of the area 1 with the floor 0.
func row(n int, sills ...sill) basins {
	return basins{slices.Repeat([]int{1}, n), make([]int, n), sills}
}

// clone has spare capacity, filled with numbers that are not to be read.
func clone(b basins) basins {
	return basins{spare(b.Area, -7), spare(b.Floor, -7), spare(b.Sills, sill{-7, -7, -7})}
}

func spare[T any](list []T, beyond T) []T {
	longer := append(slices.Clone(list), beyond, beyond)
	return longer[:len(list)]
}

// sorted puts the sills into the order of lists.
func sorted(b basins) basins {
	slices.SortFunc(b.Sills, func(s, t sill) int { return slices.Compare(s[:], t[:]) })
	return b
}

// someBasins are random ones: small ones with sills close to the floors, or any.
func someBasins(r *rand.Rand) basins {
	n := 1 + r.Intn(8)
	area, floor, height := 100, 101, 1000
	if r.Intn(3) > 0 {
		area, floor, height = 3, 1+r.Intn(4), 30
	}
	var b basins
	for range n {
		b.Area = append(b.Area, 1+r.Intn(area))
		b.Floor = append(b.Floor, r.Intn(floor))
	}
	heights := r.Perm(height)
	for range r.Intn(21) {
		from := r.Intn(n)
		to := from + 1 + r.Intn(n-from)
		least := b.Floor[from]
		if to < n {
			least = max(least, b.Floor[to])
		}
		if k := slices.IndexFunc(heights, func(h int) bool { return h+1 >= least }); k >= 0 {
			b.Sills = append(b.Sills, sill{from, to, heights[k] + 1})
			heights = slices.Delete(heights, k, k+1)
		}
	}
	return sorted(b)
}

// someAmounts are random ones in few basins or in many: a few units, about what the basins hold, or anything.
func someAmounts(r *rand.Rand, b basins) []int {
	n := len(b.Area)
	amounts := make([]int, n)
	for _, basin := range r.Perm(n)[:1+r.Intn(n)] {
		switch r.Intn(4) {
		case 0:
			amounts[basin] = r.Intn(4)
		case 1:
			amounts[basin] = b.Area[basin] * r.Intn(40)
		case 2:
			amounts[basin] = b.Area[basin] * r.Intn(1000)
		case 3:
			amounts[basin] = r.Intn(most + 1)
		}
	}
	return amounts
}

func rat(f pair) *big.Rat { return big.NewRat(f[0], f[1]) }

func whole(n int) *big.Rat { return big.NewRat(int64(n), 1) }

func sum(list []int) int64 {
	var total int64
	for _, x := range list {
		total += int64(x)
	}
	return total
}

// outcome is whether the results of a call are zero values, and its error.
type outcome struct {
	zero bool
	e    api.Errno
}

func value[T comparable](x T, e api.Errno) outcome { var zero T; return outcome{x == zero, e} }
func many[T any](l []T, e api.Errno) outcome       { return outcome{len(l) == 0, e} }
func both[T any, U comparable](l []T, x U, e api.Errno) outcome {
	var zero U
	return outcome{len(l) == 0 && x == zero, e}
}
func basinsOf(b basins, e api.Errno) outcome {
	return outcome{len(b.Area)+len(b.Floor)+len(b.Sills) == 0, e}
}

// basinCalls are the functions that take basins only.
func basinCalls(b basins) map[string]outcome {
	return map[string]outcome{
		"Check":  {true, sluice.Check(b)},
		"Tree":   many(sluice.Tree(b)),
		"Pruned": basinsOf(sluice.Pruned(b)),
	}
}

// amountCalls are those that take amounts, too; those that take two lists get right ones as the other.
func amountCalls(b basins, amounts []int) map[string]outcome {
	right := make([]int, len(b.Area))
	return map[string]outcome{
		"Pour":      both(sluice.Pour(b, amounts)),
		"More":      both(sluice.More(b, amounts, right)),
		"More then": both(sluice.More(b, right, amounts)),
		"More both": both(sluice.More(b, amounts, amounts)),
		"Pools":     many(sluice.Pools(b, amounts)),
		"AreLevels": value(sluice.AreLevels(b, amounts, nil, 0)),
		"Stored":    many(sluice.Stored(b, amounts)),
		"Total":     value(sluice.Total(b, amounts)),
	}
}

// placeCalls are those that take a basin, too.
func placeCalls(b basins, basin int) map[string]outcome {
	return map[string]outcome{
		"Room":     value(sluice.Room(b, basin)),
		"Wet":      many(sluice.Wet(b, basin, 1)),
		"Wet none": many(sluice.Wet(b, basin, -1)),
		"Lip":      value(sluice.Lip(b, basin, 0)),
		"Lip same": value(sluice.Lip(b, basin, basin)),
	}
}

func fails(t *testing.T, e api.Errno, calls map[string]outcome, of ...any) {
	t.Helper()
	for name, got := range calls {
		if (got != outcome{true, e}) {
			t.Errorf("%s of %v: %v, not %d", name, of, got, e)
		}
	}
}

// wrongBasins have one fault each.
func wrongBasins() []basins {
	list := []basins{{}, {nil, nil, []sill{{0, 1, 5}}}, row(0), row(9), row(16)}
	for _, area := range []int{0, -1, 101, 1<<32 + 1, -1 << 32, math.MaxInt, math.MinInt} {
		list = append(list, basins{[]int{area, 1}, []int{0, 0}, nil}, basins{[]int{1, area}, []int{0, 0}, nil})
	}
	for _, floor := range []int{-1, 101, 1 << 32, 1<<32 + 1, -1 << 32, math.MaxInt, math.MinInt} {
		list = append(list, basins{[]int{1, 1}, []int{floor, 0}, nil}, basins{[]int{1, 1}, []int{0, floor}, nil})
	}
	for _, floors := range [][]int{nil, {}, {0}, {0, 0, 0}} {
		list = append(list, basins{[]int{1, 1}, floors, nil})
	}
	for _, s := range []sill{{0, 0, 5}, {1, 0, 5}, {1, 1, 5}, {2, 2, 5}, {2, 1, 5}, {2, 3, 5}, {0, 3, 5}, {1, 3, 5}, {-1, 0, 5}, {-1, 2, 5}, {-2, -1, 5}, {0, math.MaxInt, 5}, {0, 1<<32 + 1, 5}, {math.MinInt, 1, 5}, {math.MinInt, math.MaxInt, 5}, {0, -1, 5}, {0, math.MinInt, 5}, {1 << 32, 1<<32 + 1, 5}} {
		list = append(list, row(2, s))
	}
	for _, height := range []int{0, -1, 1001, 1<<32 + 1, math.MaxInt, math.MinInt} {
		list = append(list, row(2, sill{0, 1, height}), row(2, sill{1, 2, height}))
	}
	for _, s := range []sill{{0, 1, 2}, {0, 1, 1}, {0, 2, 2}, {1, 2, 1}} {
		list = append(list, basins{[]int{1, 1}, []int{3, 2}, []sill{s}})
	}
	list = append(list, basins{[]int{1, 1}, []int{2, 3}, []sill{{0, 1, 2}}})
	for _, sills := range [][]sill{{{0, 2, 5}, {0, 1, 6}}, {{1, 2, 5}, {0, 1, 6}}, {{0, 1, 6}, {0, 1, 5}}, {{0, 1, 5}, {0, 1, 5}}, {{0, 1, 5}, {0, 2, 5}}, {{0, 1, 5}, {0, 2, 6}, {1, 2, 5}}, {{0, 1, 5}, {1, 2, 6}, {0, 2, 7}}, {{0, 1, 5}, {0, 1, 4}, {0, 1, 6}}} {
		list = append(list, row(2, sills...))
	}
	return append(list, row(8, ladder(21)...), row(2, ladder(21)...))
}

// ladder is sills between the first basins, one above the other.
func ladder(n int) []sill {
	var sills []sill
	for height := range n {
		sills = append(sills, sill{0, 1, height + 1})
	}
	return sills
}

// wrongAmounts are for two basins.
var wrongAmounts = [][]int{nil, {}, {1}, {1, 2, 3}, {-1, 0}, {0, -1}, {most + 1, 0}, {0, most + 1}, {most + 1, -1}, {1 << 32, 0}, {0, 1<<32 + 1}, {-1 << 32, 0}, {math.MaxInt, math.MinInt}, {math.MinInt, math.MaxInt}, {math.MinInt, 0}, {math.MaxInt, 0}}

// wrongPlaces are no basins of two.
var wrongPlaces = []int{-1, 2, 3, 8, 9, 1 << 32, 1<<32 + 1, -1 << 32, math.MaxInt, math.MinInt}

// P9.1: ErrBasin for what are no basins, whatever else is wrong, with zero values beside it.
func TestWrongBasins(t *testing.T) {
	for _, b := range wrongBasins() {
		fails(t, api.ErrBasin, basinCalls(b), b)
		for _, amounts := range append(wrongAmounts, []int{1, 2}, make([]int, 9)) {
			fails(t, api.ErrBasin, amountCalls(b, amounts), b, amounts)
		}
		for _, basin := range append(wrongPlaces, 0, 1) {
			fails(t, api.ErrBasin, placeCalls(b, basin), b, basin)
		}
	}
}

// P9.1: OK for basins, up to their limits.
func TestBasins(t *testing.T) {
	list := []basins{row(1), row(8), row(2, ladder(20)...), row(8, ladder(20)...), row(1, sill{0, 1, 1}), row(1, sill{0, 1, 1}, sill{0, 1, 1000})}
	list = append(list,
		basins{[]int{1, 100}, []int{0, 100}, []sill{{0, 1, 100}, {0, 2, 1}, {1, 2, 101}}},
		basins{[]int{100, 1}, []int{100, 0}, []sill{{0, 1, 1000}, {0, 2, 100}, {1, 2, 1}}},
		basins{[]int{1, 1}, []int{2, 3}, []sill{{0, 1, 3}, {0, 2, 2}, {1, 2, 4}}},
		row(3, sill{0, 1, 3}, sill{0, 1, 4}, sill{0, 2, 2}, sill{0, 3, 7}, sill{1, 2, 1}, sill{2, 3, 5}),
		row(3, sill{0, 2, 9}, sill{1, 2, 8}, sill{1, 3, 7}, sill{2, 3, 6}))
	for _, b := range list {
		if e := sluice.Check(b); e != api.OK {
			t.Errorf("Check(%v) = %d", b, e)
		}
	}
	r := rand.New(rand.NewSource(91))
	for range 500 {
		b := someBasins(r)
		if e := sluice.Check(b); e != api.OK {
			t.Errorf("Check(%v) = %d", b, e)
		}
		if len(b.Sills) < 2 {
			continue
		}
		i := r.Intn(len(b.Sills) - 1)
		b.Sills[i], b.Sills[i+1] = b.Sills[i+1], b.Sills[i]
		if e := sluice.Check(b); e != api.ErrBasin {
			t.Errorf("Check(%v) = %d", b, e)
		}
	}
}

// P9.1: then ErrArg for amounts that are not right, in each list, or a basin that is none.
func TestWrongAmounts(t *testing.T) {
	for _, b := range []basins{row(2), row(2, sill{0, 1, 5}), row(2, sill{0, 1, 5}, sill{1, 2, 2})} {
		for _, amounts := range wrongAmounts {
			fails(t, api.ErrArg, amountCalls(b, amounts), b, amounts)
		}
		for _, basin := range wrongPlaces {
			fails(t, api.ErrArg, placeCalls(b, basin), b, basin)
		}
	}
	for _, n := range []int{1, 3, 8} {
		for _, amounts := range [][]int{make([]int, n-1), make([]int, n+1)} {
			fails(t, api.ErrArg, amountCalls(row(n), amounts), n, amounts)
		}
		fails(t, api.ErrArg, placeCalls(row(n), n), n)
	}
}

// P9.3: Lip takes the sea as its last place, but not as its first, and no place twice.
func TestWrongLips(t *testing.T) {
	for _, b := range []basins{row(2), row(2, sill{0, 1, 5}, sill{1, 2, 2})} {
		var wrong [][2]int
		for _, place := range wrongPlaces {
			wrong = append(wrong, [2]int{place, 0}, [2]int{place, 1}, [2]int{place, 2}, [2]int{place, place})
			if place != 2 {
				wrong = append(wrong, [2]int{0, place}, [2]int{1, place}, [2]int{place, -1})
			}
		}
		for _, p := range append(wrong, [2]int{0, 0}, [2]int{1, 1}) {
			if lip, e := sluice.Lip(b, p[0], p[1]); lip != 0 || e != api.ErrArg {
				t.Errorf("Lip(%v, %v) = %d, %d", b, p, lip, e)
			}
		}
	}
}

// P9.4: Wet returns ErrArg for an amount that is not from 0 to 10^6.
func TestWrongWet(t *testing.T) {
	b := row(2, sill{0, 1, 5})
	for _, amount := range []int{-1, most + 1, 1 << 32, 1<<32 + 1, -1 << 32, math.MaxInt, math.MinInt} {
		if wet, e := sluice.Wet(b, 0, amount); len(wet) > 0 || e != api.ErrArg {
			t.Errorf("Wet(%v, 0, %d) = %v, %d", b, amount, wet, e)
		}
	}
	for _, amount := range []int{1, most} {
		if wet, e := sluice.Wet(b, 1, amount); len(wet) == 0 || e != api.OK {
			t.Errorf("Wet(%v, 1, %d) = %v, %d", b, amount, wet, e)
		}
	}
}

// results are those of all calls, errors included.
func results(b basins, amounts, then []int, levels [][2]int64, basin int) []any {
	list := []any{sluice.Check(b)}
	add := func(results ...any) { list = append(list, results...) }
	add3 := func(l [][2]int64, lost int64, e api.Errno) { add(l, lost, e) }
	add3(sluice.Pour(b, amounts))
	add3(sluice.More(b, amounts, then))
	pools, e := sluice.Pools(b, amounts)
	add(pools, e)
	is, e := sluice.AreLevels(b, amounts, levels, 0)
	add(is, e)
	lip, e := sluice.Lip(b, basin, len(b.Area))
	add(lip, e)
	tree, e := sluice.Tree(b)
	add(tree, e)
	pruned, e := sluice.Pruned(b)
	add(pruned.Area, pruned.Floor, pruned.Sills, e)
	room, e := sluice.Room(b, basin)
	add(room, e)
	wet, e := sluice.Wet(b, basin, 50)
	add(wet, e)
	stored, e := sluice.Stored(b, amounts)
	add(stored, e)
	total, e := sluice.Total(b, amounts)
	add(total, e)
	return list
}

// scribble writes into all slices of results.
func scribble(list []any) {
	for _, x := range list {
		switch l := x.(type) {
		case []int:
			fill(l, -9)
		case [][]int:
			for _, inner := range l {
				fill(inner, -9)
			}
		case []sill:
			fill(l, sill{-9, -9, -9})
		case []pair:
			fill(l, pair{-9, -9})
		}
	}
}

// fill writes into a slice's spare capacity, too.
func fill[T any](list []T, x T) {
	list = list[:cap(list)]
	for i := range list {
		list[i] = x
	}
}

// R4, R7: no call changes an argument, nor reads beyond it; results are new memory, and the same each time.
func TestMemory(t *testing.T) {
	r := rand.New(rand.NewSource(94))
	for range 300 {
		b := someBasins(r)
		amounts, then := someAmounts(r, b), someAmounts(r, b)
		levels, _, _ := sluice.Pour(b, amounts)
		basin := r.Intn(len(b.Area))
		want := results(b, amounts, then, levels, basin)
		c, a, m, l := clone(b), spare(amounts, -7), spare(then, -7), spare(levels, pair{-7, -7})
		first := results(c, a, m, l, basin)
		if !reflect.DeepEqual(first, want) {
			t.Fatalf("%v: %v, then %v", b, want, first)
		}
		scribble(first)
		if !reflect.DeepEqual([]any{c, a, m, l}, []any{clone(b), spare(amounts, -7), spare(then, -7), spare(levels, pair{-7, -7})}) {
			t.Fatalf("arguments changed: %v", b)
		}
		for _, list := range [][]int{c.Area, c.Floor, a, m} {
			if beyond := list[len(list) : len(list)+2]; !slices.Equal(beyond, []int{-7, -7}) {
				t.Fatalf("beyond the arguments: %v", beyond)
			}
		}
		if beyond := c.Sills[len(c.Sills) : len(c.Sills)+2]; beyond[0] != (sill{-7, -7, -7}) || beyond[1] != beyond[0] {
			t.Fatalf("beyond the sills: %v", beyond)
		}
		if again := results(c, a, m, l, basin); !reflect.DeepEqual(again, want) {
			t.Fatalf("%v: %v, then %v", b, want, again)
		}
	}
}

// R4: nil and an empty slice are the same.
func TestEmpty(t *testing.T) {
	none, empty := basins{[]int{2}, []int{1}, nil}, basins{[]int{2}, []int{1}, []sill{}}
	for _, b := range []basins{none, empty} {
		levels, lost, e := sluice.Pour(b, []int{7})
		if !slices.Equal(levels, []pair{{9, 2}}) || lost != 0 || e != api.OK {
			t.Errorf("Pour: %v, %d, %d", levels, lost, e)
		}
		tree, e := sluice.Tree(b)
		pruned, f := sluice.Pruned(b)
		if len(tree)+len(pruned.Sills) > 0 || len(pruned.Area) != 1 || e+f != api.OK {
			t.Errorf("Tree: %v; Pruned: %v", tree, pruned)
		}
	}
	for _, levels := range [][]pair{nil, {}} {
		if is, e := sluice.AreLevels(none, []int{0}, levels, 0); is || e != api.OK {
			t.Errorf("AreLevels: %t, %d", is, e)
		}
	}
}
