package gauss_test

import (
	"cmp"
	"math"
	"math/big"
	"math/rand"
	"slices"
	"testing"

	"careen/api"
	"careen/gauss"
)

// isPrimeByNorm tells by the norm whether x is prime: it is, if its norm is a prime number, or the square of one that leaves 3 by 4 (and then x is that number times a unit).
func isPrimeByNorm(x number) bool {
	if x[0] == 0 || x[1] == 0 {
		p := max(x[0], -x[0], x[1], -x[1])
		return p%4 == 3 && isPrimeNumber(p)
	}
	return isPrimeNumber(norm(x))
}

// isPrimeNumber: ProbablyPrime of 0 is sure for numbers below 2^64.
func isPrimeNumber(p int) bool {
	return big.NewInt(int64(p)).ProbablyPrime(0)
}

// inOrder compares by norms, then as lists.
func inOrder(x, y number) int {
	return cmp.Or(cmp.Compare(norm(x), norm(y)), slices.Compare(x[:], y[:]))
}

// P7.3: IsPrime of small numbers: only units and associates divide it.
func TestIsPrime(t *testing.T) {
	for _, x := range square(14) {
		want := norm(x) > 1
		for _, d := range square(14) {
			if want && norm(d) > 1 && norm(d) < norm(x) && isMultiple(x, d) {
				want = false
			}
		}
		if is, e := gauss.IsPrime(x); is != want || e != api.OK {
			t.Errorf("IsPrime(%v) = %t, %d", x, is, e)
		}
	}
}

// P7.3: IsPrime of greater numbers, by their norms.
func TestIsPrimeGreat(t *testing.T) {
	r := rand.New(rand.NewSource(73))
	list := append(some(r, 1000, most), some(r, 1000, 300)...)
	for range 500 {
		list = append(list, number{r.Intn(most + 1)}, number{0, -r.Intn(most + 1)}, number{1, r.Intn(most + 1)})
	}
	list = append(list, number{29989}, number{0, 29983}, number{-29959, 0}, number{173 * 173}, number{0, 163 * 167})
	var primes int
	for _, x := range list {
		want := isPrimeByNorm(x)
		if want {
			primes++
		}
		if is, e := gauss.IsPrime(x); is != want || e != api.OK {
			t.Errorf("IsPrime(%v) = %t, %d", x, is, e)
		}
	}
	if primes < 200 {
		t.Errorf("only %d primes", primes)
	}
}

// checkFactors tells what is wrong with the factors of x, if anything is.
func checkFactors(x number) string {
	unit, primes, e := gauss.Factor(x)
	product := unit
	for _, p := range primes {
		if !isPrimeByNorm(p) || !isFirst(p) {
			return "a factor is not a prime, or not the first of its associates"
		}
		product = times(product, p)
	}
	switch {
	case e != api.OK:
		return "there is an error"
	case !slices.Contains(unitList, unit):
		return "the unit is none"
	case product != x:
		return "the product is another one"
	case !slices.IsSortedFunc(primes, inOrder):
		return "the primes are not in order"
	}
	return ""
}

// P7.3: Factor of small, great and random numbers.
func TestFactor(t *testing.T) {
	r := rand.New(rand.NewSource(731))
	list := append(square(30), some(r, 500, most)...)
	for range 500 {
		x := number{1, 0}
		for next := some(r, 1, 1+r.Intn(12))[8]; inRange(times(x, next)) && norm(x) > 0 && r.Intn(12) > 0; next = some(r, 1, 12)[8] {
			x = times(x, next)
		}
		list = append(list, x)
	}
	// 29989 = 158^2 + 71^2, 29983 leaves 3 by 4; 2^14 (1 + i), 5^6 and 3^9 have the same primes many times.
	list = append(list, number{29989}, number{0, 29983}, number{16384, 16384}, number{15625}, number{-19683}, number{0, 27720}, number{30000, 30000})
	for _, x := range list {
		if (x == number{}) {
			continue
		}
		if wrong := checkFactors(x); wrong != "" {
			unit, primes, e := gauss.Factor(x)
			t.Errorf("Factor(%v) = %v, %v, %d: %s", x, unit, primes, e, wrong)
		}
	}
}

// P7.3: some factors as they are written; those of units, and of 0.
func TestFactorExamples(t *testing.T) {
	for x, want := range map[number][]number{
		{5, 0}:   {{0, -1}, {1, 2}, {2, 1}},
		{1, 0}:   {{1, 0}},
		{0, 1}:   {{0, 1}},
		{-1, 0}:  {{-1, 0}},
		{0, -1}:  {{0, -1}},
		{2, 0}:   {{0, -1}, {1, 1}, {1, 1}},
		{-3, 0}:  {{-1, 0}, {3, 0}},
		{0, 6}:   {{1, 0}, {1, 1}, {1, 1}, {3, 0}},
		{1, -2}:  {{0, -1}, {2, 1}},
		{7, 24}:  {{-1, 0}, {1, 2}, {1, 2}, {1, 2}, {1, 2}},
		{21, 0}:  {{1, 0}, {3, 0}, {7, 0}},
		{65, 0}:  {{-1, 0}, {1, 2}, {2, 1}, {2, 3}, {3, 2}},
		{12, 15}: {{1, 0}, {3, 0}, {4, 5}},
	} {
		unit, primes, e := gauss.Factor(x)
		if unit != want[0] || !slices.Equal(primes, want[1:]) || e != api.OK {
			t.Errorf("Factor(%v) = %v, %v, %d, not %v", x, unit, primes, e, want)
		}
	}
	if (factored(gauss.Factor(number{})) != outcome{true, api.ErrArg}) {
		t.Error("Factor of 0 is not ErrArg")
	}
}

// P7.8: Factor of a product has the factors of both.
func TestFactorOfProduct(t *testing.T) {
	r := rand.New(rand.NewSource(732))
	for _, x := range some(r, 100, 170) {
		for _, y := range some(r, 10, 80) {
			if norm(x)*norm(y) == 0 {
				continue
			}
			u, f, _ := gauss.Factor(x)
			v, g, _ := gauss.Factor(y)
			unit, both, e := gauss.Factor(times(x, y))
			want := slices.Concat(f, g)
			slices.SortFunc(want, inOrder)
			if unit != times(u, v) || !slices.Equal(both, want) || e != api.OK {
				t.Errorf("%v and %v: %v, %v, %d, not %v", x, y, unit, both, e, want)
			}
		}
	}
}

// P7.3: Primes is all primes up to a norm, in order, for all norms.
func TestPrimes(t *testing.T) {
	var all []number
	for _, x := range square(45) {
		if isFirst(x) && isPrimeByNorm(x) {
			all = append(all, x)
		}
	}
	slices.SortFunc(all, inOrder)
	for most := range 2001 {
		count := 0
		for count < len(all) && norm(all[count]) <= most {
			count++
		}
		if got, e := gauss.Primes(most); !slices.Equal(got, all[:count]) || e != api.OK {
			t.Fatalf("Primes(%d) = %v, %d, not %v", most, got, e, all[:count])
		}
	}
	if got, e := gauss.Primes(10); !slices.Equal(got, []number{{1, 1}, {1, 2}, {2, 1}, {3, 0}}) || e != api.OK {
		t.Errorf("Primes(10) = %v, %d", got, e)
	}
	for _, most := range []int{-1, 2001, -2000, 1 << 32, math.MaxInt, math.MinInt} {
		if got := many(gauss.Primes(most)); (got != outcome{true, api.ErrArg}) {
			t.Errorf("Primes(%d): %v", most, got)
		}
	}
}
