package gauss

import "careen/api"

const (
	mostRests = 500 // the greatest norm for which rests are listed
	mostPower = 1_000_000_000
)

// Rests returns all rests of numbers divided by y, in the order of lists.
func Rests(y [2]int) ([][2]int, api.Errno) {
	if e := check(y); e != api.OK {
		return nil, e
	}
	if norm(y) < 1 || norm(y) > mostRests {
		return nil, api.ErrArg
	}
	return restsOf(y), api.OK
}

// Inverse returns the rest by y of the numbers z for which y divides x z - 1.
func Inverse(x, y [2]int) ([2]int, api.Errno) {
	if e := checkDivision(x, y); e != api.OK {
		return number{}, e
	}
	g, z, _ := bezout(x, y)
	if norm(g) != 1 {
		return number{}, api.ErrNone
	}
	return rest(z, y), api.OK
}

// Power returns the rest by y of x to the power of n.
func Power(x [2]int, n int, y [2]int) ([2]int, api.Errno) {
	if e := checkDivision(x, y); e != api.OK {
		return number{}, e
	}
	if n < 0 || n > mostPower {
		return number{}, api.ErrArg
	}
	power := rest(number{1, 0}, y)
	for ; n > 0; n /= 2 {
		if n%2 == 1 {
			power = rest(times(power, x), y)
		}
		x = rest(times(x, x), y)
	}
	return power, api.OK
}

// restsOf are the numbers that are their own rest by y, in the order of lists. A part of a rest is at most half the sum of the parts of y, since a rest is y times a number whose parts are at most a half.
func restsOf(y number) []number {
	var rests []number
	reach := (max(y[0], -y[0]) + max(y[1], -y[1])) / 2
	for a := range 2*reach + 1 {
		for b := range 2*reach + 1 {
			if x := (number{a - reach, b - reach}); rest(x, y) == x {
				rests = append(rests, x)
			}
		}
	}
	return rests
}
