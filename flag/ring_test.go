package flag_test

import (
	"math"
	"math/big"
	"slices"
	"testing"

	"careen/api"
	"careen/flag"
)

// ringsOf lists the first words of all rings.
func ringsOf(k, n int) []string {
	var firsts []string
	for _, word := range wordsOf(k, n) {
		if turns := unique(allTurns(word)); len(turns) == n {
			firsts = append(firsts, turns[0])
		}
	}
	return unique(firsts)
}

// P6.2: Rings of all k and n, and their number.
func TestRings(t *testing.T) {
	for k := 1; k <= 4; k++ {
		for n := 1; n <= 5; n++ {
			want := ringsOf(k, n)
			rings, e := flag.Rings(k, n)
			count, f := flag.CountRings(k, n)
			if !slices.Equal(rings, want) || count != int64(len(want)) || e != api.OK || f != api.OK {
				t.Errorf("(%d, %d): %v, %d and %d, %d, not %v", k, n, rings, e, count, f, want)
			}
		}
	}
}

// P6.2: the examples of the chapter, and flags that make no ring.
func TestRingsExamples(t *testing.T) {
	for _, x := range []struct {
		k, n int
		want []string
	}{{2, 3, []string{"aab", "abb"}}, {1, 1, []string{"a"}}, {4, 1, []string{"a", "b", "c", "d"}}, {1, 2, nil}, {1, 5, nil}, {2, 2, []string{"ab"}}, {2, 4, []string{"aaab", "aabb", "abbb"}}} {
		if rings, e := flag.Rings(x.k, x.n); !slices.Equal(rings, x.want) || e != api.OK {
			t.Errorf("Rings(%d, %d) = %v, %d, not %v", x.k, x.n, rings, e, x.want)
		}
	}
	for p, want := range map[[2]int]int64{{2, 3}: 2, {2, 5}: 6, {4, 3}: 20, {1, 1}: 1, {1, 2}: 0, {1, 60}: 0, {9, 1}: 9, {9, 2}: 36, {2, 6}: 9, {2, 12}: 335, {3, 6}: 116, {2, 59}: (1<<59 - 2) / 59, {2, 30}: 35790267} {
		if count, e := flag.CountRings(p[0], p[1]); count != want || e != api.OK {
			t.Errorf("CountRings(%d, %d) = %d, %d, not %d", p[0], p[1], count, e, want)
		}
	}
}

// moebius is 0 for a number with a square factor, otherwise 1 or -1 for an even or odd number of primes.
func moebius(n int) int64 {
	sign := int64(1)
	for p := 2; n > 1; p++ {
		if n%(p*p) == 0 {
			return 0
		}
		if n%p == 0 {
			n /= p
			sign = -sign
		}
	}
	return sign
}

// whole is the number of whole words over k flags of the length n.
func whole(k, n int) *big.Int {
	sum := new(big.Int)
	for d := 1; d <= n; d++ {
		if n%d == 0 {
			sum.Add(sum, new(big.Int).Mul(big.NewInt(moebius(n/d)), power(k, d)))
		}
	}
	return sum
}

func power(k, n int) *big.Int {
	return new(big.Int).Exp(big.NewInt(int64(k)), big.NewInt(int64(n)), nil)
}

// P6.2: CountRings up to its limits, and ErrArg just where k^n is more than 10^18.
func TestCountRings(t *testing.T) {
	for k := 1; k <= 9; k++ {
		for n := 1; n <= 60; n++ {
			want, wantErr := int64(0), api.ErrArg
			if power(k, n).Cmp(power(10, 18)) <= 0 {
				want, wantErr = new(big.Int).Div(whole(k, n), big.NewInt(int64(n))).Int64(), api.OK
			}
			if count, e := flag.CountRings(k, n); count != want || e != wantErr {
				t.Errorf("CountRings(%d, %d) = %d, %d, not %d, %d", k, n, count, e, want, wantErr)
			}
		}
	}
	for p, want := range map[[2]int]api.Errno{{2, 59}: api.OK, {2, 60}: api.ErrArg, {4, 29}: api.OK, {4, 30}: api.ErrArg, {9, 18}: api.OK, {9, 19}: api.ErrArg, {9, 60}: api.ErrArg, {8, 60}: api.ErrArg, {1, 60}: api.OK} {
		if _, e := flag.CountRings(p[0], p[1]); e != want {
			t.Errorf("CountRings(%d, %d): %d, not %d", p[0], p[1], e, want)
		}
	}
}

// P6.2: what CountRings refuses.
func TestWrongCounts(t *testing.T) {
	for _, p := range [][2]int{{0, 1}, {-1, 1}, {10, 1}, {1, 0}, {1, -1}, {1, 61}, {0, 0}, {10, 61}, {math.MaxInt, 1}, {math.MinInt, 1}, {1, math.MaxInt}, {1, math.MinInt}, {2, math.MaxInt}, {math.MaxInt, math.MaxInt}, {1 << 32, 2}, {-2, 3}, {0, 60}} {
		if count, e := flag.CountRings(p[0], p[1]); count != 0 || e != api.ErrArg {
			t.Errorf("CountRings(%d, %d) = %d, %d", p[0], p[1], count, e)
		}
	}
}

// P6.7: CountRings times n, added up over all divisors n of a number m, is k^m.
func TestDivisors(t *testing.T) {
	for k := 1; k <= 9; k++ {
		for m := 1; m <= 60 && power(k, m).Cmp(power(10, 18)) <= 0; m++ {
			sum := int64(0)
			for n := 1; n <= m; n++ {
				if m%n == 0 {
					count, _ := flag.CountRings(k, n)
					sum += count * int64(n)
				}
			}
			if sum != power(k, m).Int64() {
				t.Errorf("%d flags, %d: %d, not %d", k, m, sum, power(k, m))
			}
		}
	}
}
