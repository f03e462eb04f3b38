package sluice_test

import (
	"math/rand"
	"slices"
	"testing"

	"careen/api"
	"careen/sluice"
)

// joined returns whether a way leads from one place to another one over sills that are at most so high.
func joined(b basins, x, y, height int) bool {
	seen := map[int]bool{x: true}
	open := []int{x}
	for len(open) > 0 {
		place := open[0]
		open = open[1:]
		for _, s := range b.Sills {
			next := -1
			if s[0] == place {
				next = s[1]
			} else if s[1] == place {
				next = s[0]
			}
			if s[2] <= height && next >= 0 && !seen[next] {
				seen[next] = true
				open = append(open, next)
			}
		}
	}
	return seen[y]
}

// lip is the least height with a way, by trying all of them.
func lip(b basins, x, y int) (int, bool) {
	heights := []int{}
	for _, s := range b.Sills {
		heights = append(heights, s[2])
	}
	slices.Sort(heights)
	for _, height := range heights {
		if joined(b, x, y, height) {
			return height, true
		}
	}
	return 0, false
}

// P9.3: lips by their definition, which may lead through the sea; a lip is the same both ways.
func TestLips(t *testing.T) {
	r := rand.New(rand.NewSource(931))
	none := 0
	for range 600 {
		b := someBasins(r)
		n := len(b.Area)
		for x := range n {
			for y := range n + 1 {
				if x == y {
					continue
				}
				want, is := lip(b, x, y)
				err := api.OK
				if !is {
					none++
					err = api.ErrNone
				}
				if got, e := sluice.Lip(b, x, y); got != want || e != err {
					t.Fatalf("Lip(%v, %d, %d) = %d, %d, not %d", b, x, y, got, e, want)
				}
			}
		}
	}
	if none < 100 {
		t.Errorf("only %d without a lip", none)
	}
}

// P9.3: the tree has just the sills whose sides no lower ones join, rising; Pruned has them in the order of lists, and nothing else changes.
func TestTrees(t *testing.T) {
	r := rand.New(rand.NewSource(932))
	for range 1500 {
		b := someBasins(r)
		want := slices.DeleteFunc(slices.Clone(b.Sills), func(s sill) bool { return joined(b, s[0], s[1], s[2]-1) })
		pruned, e := sluice.Pruned(b)
		if !slices.Equal(pruned.Area, b.Area) || !slices.Equal(pruned.Floor, b.Floor) || !slices.Equal(pruned.Sills, want) || e != api.OK {
			t.Fatalf("Pruned(%v) = %v, %d, not %v", b, pruned, e, want)
		}
		if e := sluice.Check(pruned); e != api.OK {
			t.Fatalf("Check(%v) = %d", pruned, e)
		}
		slices.SortFunc(want, func(s, u sill) int { return s[2] - u[2] })
		if tree, e := sluice.Tree(b); !slices.Equal(tree, want) || e != api.OK {
			t.Fatalf("Tree(%v) = %v, %d, not %v", b, tree, e, want)
		}
	}
}

// P9.6: only the sills of the tree count: without the others, levels, losses and lips are the same.
func TestPruned(t *testing.T) {
	r := rand.New(rand.NewSource(96))
	for range 1500 {
		b := someBasins(r)
		pruned, _ := sluice.Pruned(b)
		amounts := someAmounts(r, b)
		levels, lost, _ := sluice.Pour(b, amounts)
		same, e := sluice.AreLevels(pruned, amounts, levels, lost)
		if !same || e != api.OK {
			t.Fatalf("Pour(%v, %v) = %v, %d, not so for %v", b, amounts, levels, lost, pruned)
		}
		x, y := r.Intn(len(b.Area)), r.Intn(len(b.Area)+1)
		one, e := sluice.Lip(b, x, y)
		other, f := sluice.Lip(pruned, x, y)
		if one != other || e != f {
			t.Fatalf("Lip(%v, %d, %d) = %d, %d, but %d, %d for %v", b, x, y, one, e, other, f, pruned)
		}
	}
}

// P9.3: the examples, a way through the sea, and two sills between the same places.
func TestLipExamples(t *testing.T) {
	three := row(3, sill{0, 1, 9}, sill{1, 2, 4})
	sea := row(3, sill{0, 1, 9}, sill{0, 3, 2}, sill{1, 3, 3})
	twice := row(2, sill{0, 1, 7}, sill{0, 1, 8}, sill{0, 2, 9}, sill{1, 2, 10})
	for _, c := range []struct {
		b    basins
		x, y int
		lip  int
		e    api.Errno
		tree []sill
	}{
		{three, 0, 2, 9, api.OK, []sill{{1, 2, 4}, {0, 1, 9}}},
		{three, 2, 0, 9, api.OK, []sill{{1, 2, 4}, {0, 1, 9}}},
		{three, 2, 1, 4, api.OK, []sill{{1, 2, 4}, {0, 1, 9}}},
		{three, 1, 3, 0, api.ErrNone, []sill{{1, 2, 4}, {0, 1, 9}}},
		{sea, 0, 1, 3, api.OK, []sill{{0, 3, 2}, {1, 3, 3}}},
		{sea, 1, 3, 3, api.OK, []sill{{0, 3, 2}, {1, 3, 3}}},
		{sea, 2, 3, 0, api.ErrNone, []sill{{0, 3, 2}, {1, 3, 3}}},
		{twice, 1, 0, 7, api.OK, []sill{{0, 1, 7}, {0, 2, 9}}},
		{twice, 1, 2, 9, api.OK, []sill{{0, 1, 7}, {0, 2, 9}}},
		{row(8), 7, 8, 0, api.ErrNone, nil},
		{row(8, sill{7, 8, 1000}), 7, 8, 1000, api.OK, []sill{{7, 8, 1000}}},
	} {
		if lip, e := sluice.Lip(c.b, c.x, c.y); lip != c.lip || e != c.e {
			t.Errorf("Lip(%v, %d, %d) = %d, %d", c.b, c.x, c.y, lip, e)
		}
		if tree, e := sluice.Tree(c.b); !slices.Equal(tree, c.tree) || e != api.OK {
			t.Errorf("Tree(%v) = %v, %d", c.b, tree, e)
		}
	}
}
