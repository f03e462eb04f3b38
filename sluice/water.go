package sluice

import (
	"iter"
	"math"
)

// water is what stands in the basins, and in the sea.
type water struct {
	basins Basins
	pools  groups
	// held is what came to stand in each place. Only the sums of pools count, so that none of it is moved when pools are joined.
	held [mostBasins + 1]int64
}

// exit is the lowest way out of a pool: how much the pool takes in until it is full up to that sill, and a place of the pool on the other side.
type exit struct {
	room   int64
	over   sill
	across int
}

// pour lets an amount run into a basin, and on from there over one sill after the other, each lower than the one before.
func (w *water) pour(basin int, amount int64) {
	var run func(place int, amount int64)
	run = func(place int, amount int64) {
	filling:
		for {
			out := w.exitOf(place)
			taken := min(amount, out.room)
			w.held[place] += taken
			amount -= taken
			back := w.exitOf(out.across)
			switch {
			case amount == 0:
				break filling
			case back.room == 0 && back.over == out.over:
				w.pools.join(out.over)
			default:
				run(out.across, amount)
				break filling
			}
		}
	}
	run(basin, amount)
}

// exitOf is the exit of a place's pool. A pool without a sill to another one takes in everything, and so does the sea.
func (w *water) exitOf(place int) exit {
	own := w.pools[place]
	if place != w.basins.sea() {
		for s := range w.basins.rising() {
			one, other := w.pools[s[0]], w.pools[s[1]]
			if one == own && other != own {
				return exit{w.room(place, s[2]), s, s[1]}
			}
			if other == own && one != own {
				return exit{w.room(place, s[2]), s, s[0]}
			}
		}
	}
	return exit{room: math.MaxInt64, across: place}
}

// room is what a place's pool takes in until the level is at a height.
func (w *water) room(place, height int) int64 {
	var room int64
	for i := range w.pool(place) {
		room += int64(w.basins.Area[i]*(height-w.basins.Floor[i])) - w.held[i]
	}
	return room
}

// pool yields the basins of a place's pool, rising.
func (w *water) pool(place int) iter.Seq[int] {
	return func(yield func(int) bool) {
		for i := range w.basins.sea() {
			if w.pools[i] == w.pools[place] && !yield(i) {
				return
			}
		}
	}
}

func (w *water) levels() []fraction {
	var list []fraction
	for basin := range w.basins.sea() {
		var volume, area int64
		for i := range w.pool(basin) {
			volume += int64(w.basins.Area[i]*w.basins.Floor[i]) + w.held[i]
			area += int64(w.basins.Area[i])
		}
		list = append(list, lowest(volume, area))
	}
	return list
}

// stored is how much water each basin has.
func (w *water) stored() []fraction {
	list := w.levels()
	for i, level := range list {
		area, floor := int64(w.basins.Area[i]), int64(w.basins.Floor[i])
		list[i] = lowest(area*(level.top-floor*level.under), level.under)
	}
	return list
}

func (w *water) total() int64 {
	var total int64
	for i := range w.basins.sea() {
		total += w.held[i]
	}
	return total
}

func (w *water) lost() int64 {
	return w.held[w.basins.sea()]
}
