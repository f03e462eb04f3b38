package dues

import (
	"iter"

	"careen/api"
)

// whole is what a share of 1 is counted as: each denominator of a share divides it, and it is the number of orders of all ships that a canal can have.
const whole = 5040

const mostLimit = 10_000

// Equal returns the shares by which each piece is paid in equal parts by the ships that need it.
func Equal(c Canal) ([][2]int64, api.Errno) {
	l, e := ledgerOf(c)
	if e != api.OK {
		return nil, e
	}
	users := l.users()
	var list [][2]int64
	for ship := range c.Ships {
		var parts []int
		for place := range bitsOf(l.needs[ship]) {
			parts = append(parts, whole/users[place]*c.Cost[place])
		}
		share := lowest(int64(sum(parts...)), whole)
		list = append(list, share.pair())
	}
	return list, api.OK
}

// ByOrder returns what each ship pays if it pays for the pieces that no ship before it in the order needs.
func ByOrder(c Canal, order []int) ([]int, api.Errno) {
	l, e := ledgerOf(c)
	if e != api.OK {
		return nil, e
	}
	if !l.isOrder(order) {
		return nil, api.ErrArg
	}
	return l.shares(order, increase), api.OK
}

// Average returns the average, over all orders, of the shares by them.
func Average(c Canal) ([][2]int64, api.Errno) {
	l, e := ledgerOf(c)
	if e != api.OK {
		return nil, e
	}
	return l.average(increase), api.OK
}

// Power returns for each ship the share of all orders in which it brings the cost above the limit.
func Power(c Canal, limit int) ([][2]int64, api.Errno) {
	l, e := ledgerOf(c)
	if e != api.OK {
		return nil, e
	}
	if !areFrom(0, mostLimit, limit) {
		return nil, api.ErrArg
	}
	return l.average(func(before, with int) int {
		if before <= limit && with > limit {
			return 1
		}
		return 0
	}), api.OK
}

func increase(before, with int) int {
	return with - before
}

func (l ledger) isOrder(order []int) bool {
	set := 0
	for _, ship := range order {
		if !l.has(ship) || set&only(ship) != 0 {
			return false
		}
		set |= only(ship)
	}
	return set == l.all()
}

// shares asks for the share of each ship, with the cost of the ships before it in the order, and with it.
func (l ledger) shares(order []int, share func(before, with int) int) []int {
	list := make([]int, len(order))
	set := 0
	for _, ship := range order {
		before := l.cost(set)
		set |= only(ship)
		list[ship] = share(before, l.cost(set))
	}
	return list
}

// average is that, over all orders, of the shares that are asked for.
func (l ledger) average(share func(before, with int) int) [][2]int64 {
	ships := len(l.canal.Ships)
	count := 0
	totals := make([]int, ships)
	for order := range orders(ships) {
		count++
		for ship, part := range l.shares(order, share) {
			totals[ship] += part
		}
	}
	var list [][2]int64
	for _, total := range totals {
		list = append(list, lowest(int64(total), int64(count)).pair())
	}
	return list
}

// orders yields all orders of so many ships, each in the same list.
func orders(ships int) iter.Seq[[]int] {
	return func(yield func([]int) bool) {
		order := make([]int, ships)
		for ship := range order {
			order[ship] = ship
		}
		var arrange func(place int) bool
		arrange = func(place int) bool {
			if place == ships {
				return yield(order)
			}
			for from := place; from < ships; from++ {
				order[place], order[from] = order[from], order[place]
				if !arrange(place + 1) {
					return false
				}
				order[place], order[from] = order[from], order[place]
			}
			return true
		}
		arrange(0)
	}
}
