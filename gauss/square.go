package gauss

import (
	"iter"

	"careen/api"
)

const (
	mostSquares = 1_000_000
	mostRoot    = 1_000_000
)

// Squares returns all pairs a <= b, both at least 0, with a a + b b = n, rising.
func Squares(n int) ([][2]int, api.Errno) {
	if n < 0 || n > mostSquares {
		return nil, api.ErrArg
	}
	var pairs []number
	for x := range corner(n) {
		if x[0] <= x[1] {
			pairs = append(pairs, x)
		}
	}
	return pairs, api.OK
}

// CountSquares returns the number of Gaussian integers with the norm n.
func CountSquares(n int) (int, api.Errno) {
	if n < 0 || n > mostSquares {
		return 0, api.ErrArg
	}
	if n == 0 {
		return 1, api.OK
	}
	return 4 * len(firsts(n)), api.OK
}

// Root returns the least x > 0 for which p divides x x + 1.
func Root(p int) (int, api.Errno) {
	if p < 2 || p > mostRoot {
		return 0, api.ErrArg
	}
	// With x, p - x is one, too, so the least one is at most p / 2; and 0 is none.
	for x := range p/2 + 1 {
		if (x*x+1)%p == 0 {
			return x, api.OK
		}
	}
	return 0, api.ErrNone
}

// firsts are the numbers with the norm n > 0 that are the first of their associates, in the order of lists.
func firsts(n int) []number {
	var list []number
	for x := range corner(n) {
		if x[0] > 0 {
			list = append(list, x)
		}
	}
	return list
}

// corner yields the numbers with the norm n of which both parts are at least 0, in the order of lists.
func corner(n int) iter.Seq[number] {
	return func(yield func(number) bool) {
		b := 0
		for b*b < n {
			b++
		}
		for a := 0; b >= 0; a++ {
			for b >= 0 && a*a+b*b > n {
				b--
			}
			if b >= 0 && a*a+b*b == n && !yield(number{a, b}) {
				return
			}
		}
	}
}
