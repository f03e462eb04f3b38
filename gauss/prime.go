package gauss

import "careen/api"

// mostPrimes is the greatest norm up to which primes are listed.
const mostPrimes = 2000

// IsPrime returns whether x is prime.
func IsPrime(x [2]int) (bool, api.Errno) {
	if e := check(x); e != api.OK {
		return false, e
	}
	first, _ := firstOf(x)
	return norm(x) > 1 && known{}.factor(x) == first, api.OK
}

// Factor returns the unit and the primes whose product is x.
func Factor(x [2]int) (unit [2]int, primes [][2]int, e api.Errno) {
	if e := checkDivision(x, x); e != api.OK {
		return number{}, nil, e
	}
	k := known{}
	for norm(x) > 1 {
		prime := k.factor(x)
		primes = append(primes, prime)
		x = quotient(x, prime)
	}
	return x, primes, api.OK
}

// Primes returns the primes with a norm of at most most, each the first of its associates, by their norms.
func Primes(most int) ([][2]int, api.Errno) {
	if most < 0 || most > mostPrimes {
		return nil, api.ErrArg
	}
	var primes []number
	k := known{}
	for n := 2; n <= most; n++ {
		primes = append(primes, k.primes(n)...)
	}
	return primes, api.OK
}

// known are the primes of each norm that were looked for so far, each the first of its associates, in the order of lists.
type known map[int][]number

// primes are those with the norm n, which must be more than 1.
func (k known) primes(n int) []number {
	list, is := k[n]
	if !is {
		for _, x := range firsts(n) {
			if k.factor(x) == x {
				list = append(list, x)
			}
		}
		k[n] = list
	}
	return list
}

// factor is the prime that comes first in the factors of x, whose norm must be more than 1. If x is not prime itself, the square of that prime's norm is at most the norm of x.
func (k known) factor(x number) number {
	found, _ := firstOf(x)
	whole := norm(x)
search:
	for n := 2; n*n <= whole; n++ {
		if whole%n != 0 {
			continue
		}
		for _, prime := range k.primes(n) {
			if divides(prime, x) {
				found = prime
				break search
			}
		}
	}
	return found
}
