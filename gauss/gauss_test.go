package gauss_test

import (
	"math"
	"math/big"
	"math/rand"
	"slices"
	"testing"

	"careen/api"
	"careen/gauss"
)

const most = 30_000

type number = [2]int

var unitList = []number{{1, 0}, {0, 1}, {-1, 0}, {0, -1}}

func norm(x number) int { return x[0]*x[0] + x[1]*x[1] }

func plus(x, y number) number { return number{x[0] + y[0], x[1] + y[1]} }

func minus(x, y number) number { return number{x[0] - y[0], x[1] - y[1]} }

func times(x, y number) number {
	return number{x[0]*y[0] - x[1]*y[1], x[0]*y[1] + x[1]*y[0]}
}

func inRange(numbers ...number) bool {
	for _, x := range numbers {
		if x[0] < -most || x[0] > most || x[1] < -most || x[1] > most {
			return false
		}
	}
	return true
}

func isFirst(x number) bool { return x == number{} || x[0] > 0 && x[1] >= 0 }

// isMultiple tells by exact fractions whether x is y, which is not 0, times a Gaussian integer.
func isMultiple(x, y number) bool {
	for _, part := range quotient(x, y) {
		if !part.IsInt() {
			return false
		}
	}
	return true
}

// quotient has the parts of the exact quotient of x by y, which is not 0.
func quotient(x, y number) [2]*big.Rat {
	n := int64(norm(y))
	z := times(x, number{y[0], -y[1]})
	return [2]*big.Rat{big.NewRat(int64(z[0]), n), big.NewRat(int64(z[1]), n)}
}

// rounded is the nearest integer, a half upwards: the greatest one that is at most r + 1/2.
func rounded(r *big.Rat) int {
	r = new(big.Rat).Add(r, big.NewRat(1, 2))
	// For a positive divisor, Div of package big rounds down.
	return int(new(big.Int).Div(r.Num(), r.Denom()).Int64())
}

// restOf is the rest of x by y by its definition.
func restOf(x, y number) number {
	exact := quotient(x, y)
	return minus(x, times(number{rounded(exact[0]), rounded(exact[1])}, y))
}

// square lists all numbers with parts from -size to size, in the order of lists.
func square(size int) []number {
	var list []number
	for a := -size; a <= size; a++ {
		for b := -size; b <= size; b++ {
			list = append(list, number{a, b})
		}
	}
	return list
}

// some are random numbers with parts of at most size, and those with the greatest parts.
func some(r *rand.Rand, count, size int) []number {
	part := func() int { return r.Intn(2*size+1) - size }
	list := []number{{size, size}, {-size, size}, {size, -size}, {-size, -size}, {size, 0}, {0, -size}, {size, size - 1}, {1 - size, size}}
	for range count {
		list = append(list, number{part(), part()})
	}
	return list
}

// wrong are pairs that are no Gaussian integers.
func wrong() []number {
	var list []number
	for _, part := range []int{most + 1, -most - 1, 1 << 31, 1 << 32, -1 << 32, 1<<32 + 1, math.MaxInt, math.MinInt, math.MinInt + 1} {
		list = append(list, number{part, 0}, number{0, part}, number{part, part}, number{part, -most}, number{1, part})
	}
	return list
}

// outcome is whether the results of a call are zero values, and its error.
type outcome struct {
	zero bool
	e    api.Errno
}

func value[T comparable](x T, e api.Errno) outcome { var zero T; return outcome{x == zero, e} }
func many[T any](l []T, e api.Errno) outcome       { return outcome{len(l) == 0, e} }
func two(x, y number, e api.Errno) outcome         { return outcome{x == y && x == number{}, e} }

func three(x, y, z number, e api.Errno) outcome {
	return outcome{[3]number{x, y, z} == [3]number{}, e}
}

func factored(unit number, primes []number, e api.Errno) outcome {
	return outcome{unit == number{} && len(primes) == 0, e}
}

// oneCalls are the functions that take one number.
func oneCalls(x number) map[string]outcome {
	return map[string]outcome{
		"Check":   {true, gauss.Check(x)},
		"Norm":    value(gauss.Norm(x)),
		"First":   two(gauss.First(x)),
		"IsPrime": value(gauss.IsPrime(x)),
		"Factor":  factored(gauss.Factor(x)),
		"Rests":   many(gauss.Rests(x)),
	}
}

// twoCalls are the functions that take two.
func twoCalls(x, y number, n int) map[string]outcome {
	return map[string]outcome{
		"Mul":     value(gauss.Mul(x, y)),
		"Quo":     two(gauss.Quo(x, y)),
		"Divides": value(gauss.Divides(x, y)),
		"Gcd":     value(gauss.Gcd(x, y)),
		"Bezout":  three(gauss.Bezout(x, y)),
		"Inverse": value(gauss.Inverse(x, y)),
		"Power":   value(gauss.Power(x, n, y)),
	}
}

// P7.1: ErrGauss for a number that is none, whatever else is wrong, with zero values beside it.
func TestWrongNumbers(t *testing.T) {
	for _, x := range wrong() {
		for name, got := range oneCalls(x) {
			if (got != outcome{true, api.ErrGauss}) {
				t.Errorf("%s(%v): %v", name, x, got)
			}
		}
		for _, y := range []number{{}, {1, 0}, {3, -4}, {most, most}, {most + 1, 0}, x} {
			for _, n := range []int{0, 1, -1, math.MaxInt} {
				for name, got := range twoCalls(x, y, n) {
					if (got != outcome{true, api.ErrGauss}) {
						t.Errorf("%s(%v, %v), %d: %v", name, x, y, n, got)
					}
				}
				for name, got := range twoCalls(y, x, n) {
					if (got != outcome{true, api.ErrGauss}) {
						t.Errorf("%s(%v, %v), %d: %v", name, y, x, n, got)
					}
				}
			}
		}
	}
}

// P7.1: Check and Norm of what is a Gaussian integer, those with the greatest parts too.
func TestCheckAndNorm(t *testing.T) {
	for _, x := range append(square(20), some(rand.New(rand.NewSource(71)), 1000, most)...) {
		e := gauss.Check(x)
		n, f := gauss.Norm(x)
		if n != norm(x) || e != api.OK || f != api.OK {
			t.Errorf("%v: %d, %d, %d", x, n, e, f)
		}
	}
	if n, e := gauss.Norm(number{-most, most}); n != 1_800_000_000 || e != api.OK {
		t.Errorf("the greatest norm: %d, %d", n, e)
	}
}

// P7.1, P7.6: Mul is the product, with the product of the norms, or ErrLarge if a part of it is out of range.
func TestMul(t *testing.T) {
	r := rand.New(rand.NewSource(711))
	var large, right int
	for _, size := range []int{3, 100, 170, 300, most} {
		for _, x := range some(r, 100, size) {
			for _, y := range some(r, 100, min(size, 2*most/size)) {
				want, wantE := times(x, y), api.OK
				if !inRange(want) {
					want, wantE = number{}, api.ErrLarge
					large++
				} else if right++; norm(want) != norm(x)*norm(y) {
					t.Errorf("the norm of %v times %v: %d", x, y, norm(want))
				}
				if got, e := gauss.Mul(x, y); got != want || e != wantE {
					t.Errorf("Mul(%v, %v) = %v, %d, not %v", x, y, got, e, want)
				}
			}
		}
	}
	if large < 1000 || right < 1000 {
		t.Errorf("%d large, %d right products", large, right)
	}
}

// P7.1: products at the limits.
func TestMulLimits(t *testing.T) {
	for _, x := range []struct {
		x, y, want number
		e          api.Errno
	}{
		{number{most, most}, number{0, 1}, number{-most, most}, api.OK},
		{number{150, 0}, number{200, -200}, number{most, -most}, api.OK},
		{number{15000, 15000}, number{1, 1}, number{0, most}, api.OK},
		{number{15000, 15000}, number{1, -1}, number{most, 0}, api.OK},
		{number{15001, 15000}, number{1, 1}, number{}, api.ErrLarge}, // 1, 30001
		{number{15000, -15001}, number{1, 1}, number{}, api.ErrLarge},
		{number{-15000, -15001}, number{1, 1}, number{}, api.ErrLarge},
		{number{-15001, 15000}, number{1, 1}, number{}, api.ErrLarge},
		{number{most, most}, number{most, most}, number{}, api.ErrLarge}, // 0, 1800000000
		{number{most, most}, number{-most, -most}, number{}, api.ErrLarge},
		{number{most, most}, number{most, -most}, number{}, api.ErrLarge},
		{number{most, -most}, number{}, number{}, api.OK},
	} {
		if got, e := gauss.Mul(x.x, x.y); got != x.want || e != x.e {
			t.Errorf("Mul(%v, %v) = %v, %d, not %v, %d", x.x, x.y, got, e, x.want, x.e)
		}
	}
}

// P7.1, P7.6: Quo is the exact quotient, rounded, with a rest of at most half the norm.
func TestQuo(t *testing.T) {
	r := rand.New(rand.NewSource(712))
	pairs := func(f, g []number) {
		for _, x := range f {
			for _, y := range g {
				q, rest, e := gauss.Quo(x, y)
				if (y == number{}) {
					if (two(q, rest, e) != outcome{true, api.ErrArg}) {
						t.Errorf("Quo(%v, %v) = %v, %v, %d", x, y, q, rest, e)
					}
					continue
				}
				exact := quotient(x, y)
				want := number{rounded(exact[0]), rounded(exact[1])}
				if q != want || rest != minus(x, times(q, y)) || e != api.OK || 2*norm(rest) > norm(y) || !inRange(q, rest) {
					t.Errorf("Quo(%v, %v) = %v, %v, %d, not %v", x, y, q, rest, e, want)
				}
			}
		}
	}
	pairs(square(9), square(5))
	pairs(some(r, 50, most), square(3))
	pairs(some(r, 150, most), some(r, 150, 200))
	pairs(some(r, 150, most), some(r, 150, most))
	pairs([]number{{15000, 15000}, {-15000, 15000}, {15000, -14999}}, some(r, 10, most))
}

// P7.1: halves are rounded upwards, those below 0 too.
func TestQuoHalves(t *testing.T) {
	for _, x := range []struct{ x, y, q, r number }{
		{number{1, 1}, number{2, 0}, number{1, 1}, number{-1, -1}},
		{number{-1, -1}, number{2, 0}, number{0, 0}, number{-1, -1}},
		{number{-3, 3}, number{2, 0}, number{-1, 2}, number{-1, -1}},
		{number{1, 0}, number{1, 1}, number{1, 0}, number{0, -1}},
		{number{7, 0}, number{2, 1}, number{3, -1}, number{0, -1}},
		{number{15000, -15000}, number{most, 0}, number{1, 0}, number{-15000, -15000}},
		{number{}, number{0, -5}, number{}, number{}},
	} {
		if q, r, e := gauss.Quo(x.x, x.y); q != x.q || r != x.r || e != api.OK {
			t.Errorf("Quo(%v, %v) = %v, %v, %d, not %v, %v", x.x, x.y, q, r, e, x.q, x.r)
		}
	}
}

// P7.1: First of all associates of a number, and the unit that leads back to it.
func TestFirst(t *testing.T) {
	for _, x := range append(square(12), some(rand.New(rand.NewSource(713)), 1000, most)...) {
		first, unit, e := gauss.First(x)
		if !isFirst(first) || !slices.Contains(unitList, unit) || times(unit, first) != x || e != api.OK {
			t.Errorf("First(%v) = %v, %v, %d", x, first, unit, e)
		}
		for _, other := range unitList {
			if same, _, e := gauss.First(times(other, x)); same != first || e != api.OK {
				t.Errorf("First(%v) = %v, not %v", times(other, x), same, first)
			}
		}
	}
	for x, want := range map[number][2]number{
		{}: {{0, 0}, {1, 0}}, {1, 0}: {{1, 0}, {1, 0}}, {0, 1}: {{1, 0}, {0, 1}}, {-1, 0}: {{1, 0}, {-1, 0}}, {0, -1}: {{1, 0}, {0, -1}},
		{2, 1}: {{2, 1}, {1, 0}}, {-1, 2}: {{2, 1}, {0, 1}}, {-2, -1}: {{2, 1}, {-1, 0}}, {1, -2}: {{2, 1}, {0, -1}}, {0, most}: {{most, 0}, {0, 1}},
	} {
		if first, unit, e := gauss.First(x); [2]number{first, unit} != want || e != api.OK {
			t.Errorf("First(%v) = %v, %v, %d, not %v", x, first, unit, e, want)
		}
	}
}

// R4, R7: results are new memory, and the same each time.
func TestResults(t *testing.T) {
	for name, call := range map[string]func() ([]number, api.Errno){
		"Factor":  func() ([]number, api.Errno) { _, l, e := gauss.Factor(number{5040, 5040}); return l, e },
		"Primes":  func() ([]number, api.Errno) { return gauss.Primes(100) },
		"Squares": func() ([]number, api.Errno) { return gauss.Squares(325) },
		"Rests":   func() ([]number, api.Errno) { return gauss.Rests(number{3, 1}) },
	} {
		first, _ := call()
		want := slices.Clone(first)
		for i := range first {
			first[i] = number{7, 7}
		}
		_ = append(first, number{7, 7})
		for range 3 {
			if got, e := call(); !slices.Equal(got, want) || len(got) == 0 || e != api.OK {
				t.Errorf("%s: %v, %d, not %v", name, got, e, want)
			}
		}
	}
	x, y := number{1234, -987}, number{-29999, 4321}
	g, u, v, _ := gauss.Bezout(x, y)
	for range 3 {
		if g2, u2, v2, e := gauss.Bezout(x, y); [3]number{g, u, v} != [3]number{g2, u2, v2} || e != api.OK {
			t.Errorf("Bezout: %v, %v, %v, %d", g2, u2, v2, e)
		}
	}
}
