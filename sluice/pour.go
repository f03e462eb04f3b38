package sluice

import (
	"slices"

	"careen/api"
)

// Pour returns the levels after pouring, and what is lost.
func Pour(b Basins, amounts []int) ([][2]int64, int64, api.Errno) {
	w, e := fill(b, amounts)
	if e != api.OK {
		return nil, 0, e
	}
	return pairs(w.levels()), w.lost(), api.OK
}

// More returns the levels after pouring first, and then on top of that, and what is lost in all.
func More(b Basins, first, then []int) ([][2]int64, int64, api.Errno) {
	w, e := fill(b, first, then)
	if e != api.OK {
		return nil, 0, e
	}
	return pairs(w.levels()), w.lost(), api.OK
}

// Pools returns the pools of two or more basins, in the order of lists.
func Pools(b Basins, amounts []int) ([][]int, api.Errno) {
	w, e := fill(b, amounts)
	if e != api.OK {
		return nil, e
	}
	var pools [][]int
	for basin := range b.sea() {
		pool := slices.Collect(w.pool(basin))
		if len(pool) > 1 && pool[0] == basin {
			pools = append(pools, pool)
		}
	}
	return pools, api.OK
}

// AreLevels returns whether the levels and what is lost are what Pour returns.
func AreLevels(b Basins, amounts []int, levels [][2]int64, lost int64) (bool, api.Errno) {
	w, e := fill(b, amounts)
	if e != api.OK {
		return false, e
	}
	same := func(level fraction, pair [2]int64) bool { return level == fraction{pair[0], pair[1]} }
	return lost == w.lost() && slices.EqualFunc(w.levels(), levels, same), api.OK
}

// Stored returns how much water each basin has after pouring.
func Stored(b Basins, amounts []int) ([][2]int64, api.Errno) {
	w, e := fill(b, amounts)
	if e != api.OK {
		return nil, e
	}
	return pairs(w.stored()), api.OK
}

// Total returns how much water all basins have together after pouring.
func Total(b Basins, amounts []int) (int64, api.Errno) {
	w, e := fill(b, amounts)
	if e != api.OK {
		return 0, e
	}
	return w.total(), api.OK
}

// Room returns the greatest amount that can be poured into a basin alone without anything being lost.
func Room(b Basins, basin int) (int64, api.Errno) {
	w, e := fillOne(b, basin, mostPoured)
	if e != api.OK {
		return 0, e
	}
	if _, is := b.lip(basin, b.sea()); !is {
		return 0, api.ErrNone
	}
	// The basins on the way to the sea hold less than mostPoured, and are full from the first loss on: what they keep is all that they can.
	return w.total(), api.OK
}

// Wet returns the basins that have water after an amount was poured into a basin alone, rising.
func Wet(b Basins, basin, amount int) ([]int, api.Errno) {
	w, e := fillOne(b, basin, amount)
	if e != api.OK {
		return nil, e
	}
	var wet []int
	for i, level := range w.levels() {
		if level != lowest(b.Floor[i], 1) {
			wet = append(wet, i)
		}
	}
	return wet, api.OK
}

// fillOne pours an amount into one basin alone, with the first error of the basins, and of that one and the amount.
func fillOne(b Basins, basin, amount int) (water, api.Errno) {
	if e := Check(b); e != api.OK {
		return water{}, e
	}
	if !b.has(basin) {
		return water{}, api.ErrArg
	}
	amounts := make([]int, b.sea())
	amounts[basin] = amount
	return fill(b, amounts)
}

// fill pours amounts after amounts into empty basins, with the first error of the basins and of all amounts.
func fill(b Basins, pourings ...[]int) (water, api.Errno) {
	if e := Check(b); e != api.OK {
		return water{}, e
	}
	w := water{basins: b, pools: apart()}
	for _, amounts := range pourings {
		if len(amounts) != b.sea() || !areFrom(0, mostPoured, amounts...) {
			return water{}, api.ErrArg
		}
		for basin, amount := range amounts {
			w.pour(basin, int64(amount))
		}
	}
	return w, api.OK
}
