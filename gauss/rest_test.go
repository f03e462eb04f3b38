package gauss_test

import (
	"math"
	"math/rand"
	"slices"
	"testing"

	"careen/api"
	"careen/gauss"
)

// P7.5, P7.6: Rests is what is left of all numbers, as many as the norm, for all numbers it takes.
func TestRests(t *testing.T) {
	numbers := square(32)
	for _, y := range square(23) {
		if norm(y) < 1 || norm(y) > 500 {
			if got := many(gauss.Rests(y)); (got != outcome{true, api.ErrArg}) {
				t.Errorf("Rests(%v): %v", y, got)
			}
			continue
		}
		left := map[number]bool{}
		for _, x := range numbers {
			_, r, _ := gauss.Quo(x, y)
			left[r] = true
		}
		rests, e := gauss.Rests(y)
		if len(rests) != norm(y) || len(left) != norm(y) || e != api.OK {
			t.Errorf("Rests(%v): %d of them, %d, %d", y, len(rests), len(left), e)
		}
		for i, r := range rests {
			if !left[r] || i > 0 && slices.Compare(rests[i-1][:], r[:]) >= 0 {
				t.Errorf("Rests(%v) has %v at %d", y, r, i)
			}
		}
	}
}

// P7.5: some rests as they are written, and the limits of the norm.
func TestRestsExamples(t *testing.T) {
	for y, want := range map[number][]number{
		{1, 0}: {{0, 0}}, {0, -1}: {{0, 0}}, {1, 1}: {{0, -1}, {0, 0}}, {2, 0}: {{-1, -1}, {-1, 0}, {0, -1}, {0, 0}}, {2, 1}: {{-1, 0}, {0, -1}, {0, 0}, {0, 1}, {1, 0}},
	} {
		if got, e := gauss.Rests(y); !slices.Equal(got, want) || e != api.OK {
			t.Errorf("Rests(%v) = %v, %d, not %v", y, got, e, want)
		}
	}
	for y, want := range map[number]api.Errno{{22, 4}: api.OK, {-10, 20}: api.OK, {22, 5}: api.ErrArg, {20, 11}: api.ErrArg, {most, most}: api.ErrArg, {}: api.ErrArg} { // 500, 500, 509, 521
		if rests, e := gauss.Rests(y); e != want || (len(rests) == 500) != (e == api.OK) {
			t.Errorf("Rests(%v): %d of them, %d", y, len(rests), e)
		}
	}
}

// P7.5: Inverse of all small numbers is the one rest z for which y divides x z - 1, or there is none.
func TestInverse(t *testing.T) {
	for _, y := range square(5) {
		if (y == number{}) {
			continue
		}
		rests, _ := gauss.Rests(y)
		for _, x := range square(6) {
			want, wantE := number{}, api.ErrNone
			for _, z := range rests {
				if isMultiple(minus(times(x, z), number{1, 0}), y) {
					want, wantE = z, api.OK
				}
			}
			if got, e := gauss.Inverse(x, y); got != want || e != wantE {
				t.Errorf("Inverse(%v, %v) = %v, %d, not %v, %d", x, y, got, e, want, wantE)
			}
		}
	}
}

// P7.5: Inverse of great numbers; there is one just if only units divide both.
func TestInverseGreat(t *testing.T) {
	r := rand.New(rand.NewSource(75))
	var right, none int
	for _, x := range some(r, 100, most) {
		for _, y := range some(r, 100, most) {
			z, e := gauss.Inverse(x, y)
			switch g, _ := gauss.Gcd(x, y); {
			case norm(g) != 1:
				none++
				if (z != number{} || e != api.ErrNone) {
					t.Errorf("Inverse(%v, %v) = %v, %d", x, y, z, e)
				}
			case !isMultiple(minus(times(x, z), number{1, 0}), y) || restOf(z, y) != z || e != api.OK:
				t.Errorf("Inverse(%v, %v) = %v, %d", x, y, z, e)
			default:
				right++
			}
		}
	}
	if right < 1000 || none < 1000 {
		t.Errorf("%d inverses, %d without", right, none)
	}
	for _, unit := range unitList {
		for _, x := range []number{{}, {1, 0}, {most, -most}} {
			if z, e := gauss.Inverse(x, unit); (z != number{} || e != api.OK) {
				t.Errorf("Inverse(%v, %v) = %v, %d", x, unit, z, e)
			}
		}
	}
}

// powered is the rest of x to the power of n, by the digits of n in base 2 from the first one on.
func powered(x number, n int, y number) number {
	p := restOf(number{1, 0}, y)
	for bit := 30; bit >= 0; bit-- {
		p = restOf(times(p, p), y)
		if n>>bit&1 == 1 {
			p = restOf(times(p, restOf(x, y)), y)
		}
	}
	return p
}

// P7.5: Power of small n is what is left when x is taken one time after the other.
func TestPower(t *testing.T) {
	for _, y := range append(square(4), number{most, most}, number{-29_999, 3}) {
		if (y == number{}) {
			continue
		}
		for _, x := range append(square(4), number{most, -most}, number{17, most}) {
			want := restOf(number{1, 0}, y)
			for n := range 20 {
				if got, e := gauss.Power(x, n, y); got != want || e != api.OK {
					t.Errorf("Power(%v, %d, %v) = %v, %d, not %v", x, n, y, got, e, want)
				}
				want = restOf(times(want, x), y)
			}
		}
	}
}

// P7.5: Power of great n.
func TestPowerGreat(t *testing.T) {
	r := rand.New(rand.NewSource(751))
	for _, x := range some(r, 20, most) {
		for _, y := range some(r, 20, 1+r.Intn(most)) {
			if (y == number{}) {
				continue
			}
			for _, n := range []int{1_000_000_000, 999_999_999, 1 << 29, 1<<29 - 1, r.Intn(1_000_000_000)} {
				if got, e := gauss.Power(x, n, y); got != powered(x, n, y) || e != api.OK {
					t.Errorf("Power(%v, %d, %v) = %v, %d, not %v", x, n, y, got, e, powered(x, n, y))
				}
			}
		}
	}
}

// P7.8: x to the power of the norm of a prime p leaves what x leaves by p.
func TestPowerOfPrimes(t *testing.T) {
	r := rand.New(rand.NewSource(752))
	primes, _ := gauss.Primes(2000)
	for _, x := range some(r, 5000, 31_000) {
		if inRange(x) && norm(x) <= 1_000_000_000 && isPrimeByNorm(x) {
			primes = append(primes, x)
		}
	}
	for _, p := range primes {
		for _, x := range some(r, 3, most) {
			if got, e := gauss.Power(x, norm(p), p); got != restOf(x, p) || e != api.OK {
				t.Errorf("Power(%v, %d, %v) = %v, %d", x, norm(p), p, got, e)
			}
		}
	}
	if len(primes) < 500 {
		t.Errorf("only %d primes", len(primes))
	}
}

// P7.5: ErrArg for division by 0, and for an n that is out of its range.
func TestWrongRests(t *testing.T) {
	for _, x := range []number{{}, {1, 0}, {-3, 4}, {most, most}} {
		if got := value(gauss.Inverse(x, number{})); (got != outcome{true, api.ErrArg}) {
			t.Errorf("Inverse(%v, 0): %v", x, got)
		}
		for _, n := range []int{-1, 1_000_000_001, 1 << 32, math.MaxInt, math.MinInt, 0, 1, 1_000_000_000} {
			for _, y := range []number{{}, {1, 0}, {2, 5}, {most, -most}} {
				got := value(gauss.Power(x, n, y))
				isWrong := y == number{} || n < 0 || n > 1_000_000_000
				if isWrong && (got != outcome{true, api.ErrArg}) || !isWrong && got.e != api.OK {
					t.Errorf("Power(%v, %d, %v): %v", x, n, y, got)
				}
			}
		}
	}
}
