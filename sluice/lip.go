package sluice

import (
	"cmp"
	"iter"
	"slices"

	"careen/api"
)

// Lip returns the lip between a basin and another one or the sea.
func Lip(b Basins, x, y int) (int, api.Errno) {
	if e := Check(b); e != api.OK {
		return 0, e
	}
	if !b.has(x) || y != b.sea() && !b.has(y) || x == y {
		return 0, api.ErrArg
	}
	lip, is := b.lip(x, y)
	if !is {
		return 0, api.ErrNone
	}
	return lip, api.OK
}

// Tree returns the sills of the tree, in rising order of height.
func Tree(b Basins) ([][3]int, api.Errno) {
	if e := Check(b); e != api.OK {
		return nil, e
	}
	return b.tree(), api.OK
}

// Pruned returns the basins with only the sills of the tree.
func Pruned(b Basins) (Basins, api.Errno) {
	if e := Check(b); e != api.OK {
		return Basins{}, e
	}
	kept := b.tree()
	slices.SortFunc(kept, func(s, t sill) int { return slices.Compare(s[:], t[:]) })
	return Basins{slices.Clone(b.Area), slices.Clone(b.Floor), kept}, api.OK
}

// sill is the places on both sides, and a height.
type sill = [3]int

// rising yields the sills in rising order of height.
func (b Basins) rising() iter.Seq[sill] {
	return func(yield func(sill) bool) {
		sills := slices.Clone(b.Sills)
		slices.SortFunc(sills, func(s, t sill) int { return cmp.Compare(s[2], t[2]) })
		for _, s := range sills {
			if !yield(s) {
				return
			}
		}
	}
}

func (b Basins) tree() []sill {
	groups := apart()
	return slices.Collect(only(b.rising(), groups.join))
}

// lip is the height of the sill by which two places come into one group, if there is one.
func (b Basins) lip(x, y int) (int, bool) {
	groups := apart()
	for s := range b.rising() {
		groups.join(s)
		if groups[x] == groups[y] {
			return s[2], true
		}
	}
	return 0, false
}

// only yields those of the items that are to be kept.
func only[T any](items iter.Seq[T], keep func(T) bool) iter.Seq[T] {
	return func(yield func(T) bool) {
		for item := range items {
			if keep(item) && !yield(item) {
				return
			}
		}
	}
}

// groups are places, basins and the sea, that were joined: places of the same group have the same number.
type groups [mostBasins + 1]int

// apart is each place by itself.
func apart() groups {
	var g groups
	for place := range g {
		g[place] = place
	}
	return g
}

// join makes one group of those on both sides of a sill, and returns whether they were two.
func (g *groups) join(s sill) bool {
	one, other := g[s[0]], g[s[1]]
	for place, group := range g {
		if group == other {
			g[place] = one
		}
	}
	return one != other
}
