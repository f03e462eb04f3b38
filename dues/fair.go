package dues

import "careen/api"

const mostNumerator = 1_000_000_000

// IsFair returns whether shares are a fair list, and if not, the least set that pays more than its cost, or 0 if none does.
func IsFair(c Canal, shares [][2]int64) (int, bool, api.Errno) {
	l, e := ledgerOf(c)
	if e != api.OK {
		return 0, false, e
	}
	parts, are := l.partsOf(shares)
	if !are {
		return 0, false, api.ErrArg
	}
	set, fair := l.judge(parts)
	return set, fair, api.OK
}

// Least returns the least share of the ship in any fair list.
func Least(c Canal, ship int) ([2]int64, api.Errno) {
	l, e := ledgerWith(c, ship)
	if e != api.OK {
		return [2]int64{}, e
	}
	// The others pay at most their cost, and just that if the ship is the last one of an order.
	share := l.cost(l.all()) - l.cost(l.all()&^only(ship))
	return [2]int64{int64(share), 1}, api.OK
}

// Greatest returns the greatest share of the ship in any fair list.
func Greatest(c Canal, ship int) ([2]int64, api.Errno) {
	l, e := ledgerWith(c, ship)
	if e != api.OK {
		return [2]int64{}, e
	}
	// The ship pays at most its cost, and just that if it is the first one of an order.
	return [2]int64{int64(l.cost(only(ship))), 1}, api.OK
}

// partsOf are a share list's shares, counted in parts of a whole; it also returns whether shares are a share list.
func (l ledger) partsOf(shares [][2]int64) ([]int64, bool) {
	if len(shares) != len(l.canal.Ships) {
		return nil, false
	}
	var parts []int64
	for _, pair := range shares {
		share := fraction{pair[0], pair[1]}
		if !share.isShare() {
			return nil, false
		}
		parts = append(parts, share.top*(whole/share.under))
	}
	return parts, true
}

func (f fraction) isShare() bool {
	return f.under > 0 && whole%f.under == 0 &&
		f.top >= -mostNumerator && f.top <= mostNumerator && f == lowest(f.top, f.under)
}

// judge returns the least set that pays more than its cost, or 0, and whether the shares are fair. Sets come rising: each ship with all sets of those before it.
func (l ledger) judge(parts []int64) (int, bool) {
	var paid [1 << mostShips]int64
	over := 0
search:
	for ship, part := range parts {
		for others := range only(ship) {
			set := others | only(ship)
			paid[set] = paid[others] + part
			if paid[set] > whole*int64(l.cost(set)) {
				over = set
				break search
			}
		}
	}
	// If a share were below 0, and all ships paid their cost, the others of them would pay more than theirs.
	return over, over == 0 && sum(parts...) == whole*int64(l.cost(l.all()))
}
