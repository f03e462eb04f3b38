package dues

import (
	"iter"
	"math/bits"

	"careen/api"
)

// ledger tells what sets of ships cost.
type ledger struct {
	canal Canal
	// needs are the pieces that each ship needs: the bits of a word are their places.
	needs [mostShips]int
	known map[int]int
}

// ledgerOf is that of a canal, or the error if it is none.
func ledgerOf(c Canal) (ledger, api.Errno) {
	if e := Check(c); e != api.OK {
		return ledger{}, e
	}
	l := ledger{canal: c, known: map[int]int{}}
	for ship, berth := range c.Ships {
		for place := berth; place >= 0; place = c.Up[place] {
			l.needs[ship] |= only(place)
		}
	}
	return l, api.OK
}

// ledgerWith is that of a canal, with the first error of the canal and of a ship.
func ledgerWith(c Canal, ship int) (ledger, api.Errno) {
	l, e := ledgerOf(c)
	if e == api.OK && !l.has(ship) {
		return ledger{}, api.ErrArg
	}
	return l, e
}

// ledgerFor is that of a canal, with the first error of the canal and of a set of ships.
func ledgerFor(c Canal, set int) (ledger, api.Errno) {
	l, e := ledgerOf(c)
	if e == api.OK && !areFrom(0, l.all(), set) {
		return ledger{}, api.ErrArg
	}
	return l, e
}

func (l ledger) has(ship int) bool {
	return areFrom(0, len(l.canal.Ships)-1, ship)
}

// all is the set of all ships.
func (l ledger) all() int {
	return 1<<len(l.canal.Ships) - 1
}

// cost is that of a set of ships.
func (l ledger) cost(set int) int {
	if cost, is := l.known[set]; is {
		return cost
	}
	needed := 0
	for ship := range bitsOf(set) {
		needed |= l.needs[ship]
	}
	var costs []int
	for place := range bitsOf(needed) {
		costs = append(costs, l.canal.Cost[place])
	}
	l.known[set] = sum(costs...)
	return l.known[set]
}

// users are for each place the number of ships that need its piece.
func (l ledger) users() []int {
	users := make([]int, len(l.canal.Up))
	for _, needed := range l.needs {
		for place := range bitsOf(needed) {
			users[place]++
		}
	}
	return users
}

// only is the set of one ship, or the word of one piece.
func only(bit int) int {
	return 1 << bit
}

// bitsOf yields the ships of a set, or the places of a word's pieces, rising.
func bitsOf(word int) iter.Seq[int] {
	return func(yield func(int) bool) {
		for rest := uint(word); rest != 0; rest &= rest - 1 {
			if !yield(bits.TrailingZeros(rest)) {
				return
			}
		}
	}
}

func sum[T int | int64](numbers ...T) T {
	var total T
	for _, number := range numbers {
		total += number
	}
	return total
}
