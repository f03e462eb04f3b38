package gauss_test

import (
	"math"
	"math/rand"
	"slices"
	"testing"

	"careen/api"
	"careen/gauss"
)

const mostNorm = 1_000_000

// byNorm counts the Gaussian integers of each norm.
func byNorm() []int {
	count := make([]int, mostNorm+1)
	for a := -1000; a <= 1000; a++ {
		for b := -1000; b <= 1000; b++ {
			if n := a*a + b*b; n <= mostNorm {
				count[n]++
			}
		}
	}
	return count
}

// someNorms are the first numbers up to mostNorm, the last ones, and some between.
func someNorms() []int {
	var list []int
	r := rand.New(rand.NewSource(74))
	for n := range 3001 {
		list = append(list, n, mostNorm-n, r.Intn(mostNorm))
	}
	return append(list, 325, 1105, 5525, 27625, 71825, 138125, 801125)
}

// P7.4: Squares is all pairs, rising, as a search by the definition finds them.
func TestSquares(t *testing.T) {
	for _, n := range someNorms() {
		var want []number
		for a := 0; 2*a*a <= n; a++ {
			if b := int(math.Round(math.Sqrt(float64(n - a*a)))); a*a+b*b == n {
				want = append(want, number{a, b})
			}
		}
		if got, e := gauss.Squares(n); !slices.Equal(got, want) || e != api.OK {
			t.Errorf("Squares(%d) = %v, %d, not %v", n, got, e, want)
		}
	}
	for n, want := range map[int][]number{0: {{0, 0}}, 1: {{0, 1}}, 2: {{1, 1}}, 3: nil, 4: {{0, 2}}, 25: {{0, 5}, {3, 4}}, 50: {{1, 7}, {5, 5}}, 1_000_000: {{0, 1000}, {280, 960}, {352, 936}, {600, 800}}} {
		if got, e := gauss.Squares(n); !slices.Equal(got, want) || e != api.OK {
			t.Errorf("Squares(%d) = %v, %d, not %v", n, got, e, want)
		}
	}
}

// P7.4: CountSquares is the number of Gaussian integers of that norm.
func TestCountSquares(t *testing.T) {
	count := byNorm()
	for _, n := range someNorms() {
		if got, e := gauss.CountSquares(n); got != count[n] || e != api.OK {
			t.Errorf("CountSquares(%d) = %d, %d, not %d", n, got, e, count[n])
		}
	}
	for n, want := range map[int]int{0: 1, 1: 4, 2: 4, 3: 0, 25: 12} {
		if got, e := gauss.CountSquares(n); got != want || e != api.OK {
			t.Errorf("CountSquares(%d) = %d, %d, not %d", n, got, e, want)
		}
	}
}

// P7.7: CountSquares is 4 times the divisors that leave 1 by 4, less those that leave 3.
func TestCountByDivisors(t *testing.T) {
	for n := 1; n <= 2000; n++ {
		want := 0
		for d := 1; d <= n; d++ {
			if n%d == 0 {
				want += 4 * [4]int{0, 1, 0, -1}[d%4]
			}
		}
		if got, e := gauss.CountSquares(n); got != want || e != api.OK {
			t.Errorf("CountSquares(%d) = %d, %d, not %d", n, got, e, want)
		}
	}
}

// P7.7: of the odd prime numbers, those that leave 1 by 4 are sums of two squares, and just these have a Root.
func TestSquaresOfPrimes(t *testing.T) {
	for p := 3; p <= mostNorm; p += 2 {
		if p > 2000 && p < mostNorm-500 || !isPrimeNumber(p) {
			continue
		}
		pairs, e := gauss.Squares(p)
		_, f := gauss.Root(p)
		if sum := p%4 == 1; (len(pairs) == 1) != sum || (len(pairs) == 0) == sum || e != api.OK || (f == api.OK) != sum {
			t.Errorf("%d: %v, %d, %d", p, pairs, e, f)
		}
	}
}

// P7.4: Root is the least one, or there is none.
func TestRoot(t *testing.T) {
	r := rand.New(rand.NewSource(741))
	var list []int
	for p := range 1500 {
		list = append(list, p+2)
	}
	for range 100 {
		list = append(list, mostNorm-r.Intn(1000), 2+r.Intn(mostNorm-2))
	}
	for _, p := range list {
		want := value(0, api.ErrNone)
		root := 0
		for x := 1; x <= p && root == 0; x++ {
			if (x*x+1)%p == 0 {
				root, want = x, outcome{false, api.OK}
			}
		}
		got, e := gauss.Root(p)
		if got != root || value(got, e) != want {
			t.Errorf("Root(%d) = %d, %d, not %d", p, got, e, root)
		}
	}
	for p, want := range map[int]int{2: 1, 5: 2, 10: 3, 13: 5, 17: 4, 25: 7, 50: 7, 65: 8, 85: 13, 999_961: 256_200} {
		if got, e := gauss.Root(p); got != want || e != api.OK {
			t.Errorf("Root(%d) = %d, %d, not %d", p, got, e, want)
		}
	}
	for _, p := range []int{3, 4, 6, 7, 8, 20, 15, 999_983, mostNorm} {
		if got := value(gauss.Root(p)); (got != outcome{true, api.ErrNone}) {
			t.Errorf("Root(%d): %v", p, got)
		}
	}
}

// P7.4: ErrArg for a number that is out of its range.
func TestWrongSquares(t *testing.T) {
	for _, n := range []int{-1, mostNorm + 1, -25, 1 << 32, 1<<32 + 25, math.MaxInt, math.MinInt} {
		for name, got := range map[string]outcome{"Squares": many(gauss.Squares(n)), "CountSquares": value(gauss.CountSquares(n)), "Root": value(gauss.Root(n))} {
			if (got != outcome{true, api.ErrArg}) {
				t.Errorf("%s(%d): %v", name, n, got)
			}
		}
	}
	for _, p := range []int{0, 1} {
		if got := value(gauss.Root(p)); (got != outcome{true, api.ErrArg}) {
			t.Errorf("Root(%d): %v", p, got)
		}
	}
}
