package flag_test

import (
	"math"
	"math/rand"
	"slices"
	"testing"

	"careen/api"
	"careen/flag"
)

// P6.3, P6.6: Make for all k and odd n: comma-free, with one word of each ring.
func TestMake(t *testing.T) {
	for k := 1; k <= 4; k++ {
		for _, n := range []int{1, 3, 5} {
			code, e := flag.Make(k, n)
			if flag.Check(k, n, code) != api.OK || !isFree(code) || e != api.OK {
				t.Fatalf("Make(%d, %d) = %v, %d", k, n, code, e)
			}
			if _, is, f := flag.Clash(k, n, code); is || f != api.OK {
				t.Errorf("Make(%d, %d) has a clash, %d", k, n, f)
			}
			var firsts []string
			for _, word := range code {
				firsts = append(firsts, slices.Min(allTurns(word)))
			}
			count, _ := flag.CountRings(k, n)
			if !slices.Equal(unique(firsts), ringsOf(k, n)) || int64(len(code)) != count {
				t.Errorf("Make(%d, %d) has %d words for %d rings", k, n, len(code), count)
			}
		}
	}
}

// P6.3: Make returns ErrArg for an even n.
func TestMakeEven(t *testing.T) {
	for k := 1; k <= 4; k++ {
		for _, n := range []int{2, 4} {
			if got := many(flag.Make(k, n)); (got != outcome{true, api.ErrArg}) {
				t.Errorf("Make(%d, %d): %v", k, n, got)
			}
		}
	}
}

// expectGrown checks that Grow returns a comma-free code with all words of a code, to which no word can be added.
func expectGrown(t *testing.T, k, n int, code []string) {
	t.Helper()
	grown, e := flag.Grow(k, n, code)
	if flag.Check(k, n, grown) != api.OK || !isFree(grown) || e != api.OK {
		t.Fatalf("Grow(%d, %d, %v) = %v, %d", k, n, code, grown, e)
	}
	for _, word := range code {
		if !slices.Contains(grown, word) {
			t.Fatalf("Grow(%d, %d, %v) has lost %s", k, n, code, word)
		}
	}
	for _, word := range wordsOf(k, n) {
		if !slices.Contains(grown, word) && isFree(append(slices.Clone(grown), word)) {
			t.Fatalf("Grow(%d, %d, %v) = %v, where %s can be added", k, n, code, grown, word)
		}
	}
}

// P6.3: Grow of all small codes and some others; ErrCode for those that are not comma-free.
func TestGrow(t *testing.T) {
	for _, x := range examples(5) {
		if isFree(x.code) {
			expectGrown(t, x.k, x.n, x.code)
		} else if got := many(flag.Grow(x.k, x.n, x.code)); (got != outcome{true, api.ErrCode}) {
			t.Fatalf("Grow of %v: %v", x, got)
		}
	}
}

// P6.3: Grow of nothing, and of parts of codes to which no word can be added.
func TestGrowParts(t *testing.T) {
	r := rand.New(rand.NewSource(64))
	for k := 1; k <= 4; k++ {
		for n := 1; n <= 5; n++ {
			expectGrown(t, k, n, nil)
			if n%2 == 0 {
				continue
			}
			code, _ := flag.Make(k, n)
			if grown, e := flag.Grow(k, n, code); !slices.Equal(grown, code) || e != api.OK {
				t.Errorf("Grow(%d, %d, %v) = %v, %d", k, n, code, grown, e)
			}
			expectGrown(t, k, n, slices.DeleteFunc(code, func(string) bool { return r.Intn(2) == 0 }))
		}
	}
}

// P6.3, P6.7: Two returns k^2 / 3 words, and no code with more words is comma-free.
func TestTwo(t *testing.T) {
	for k, want := range map[int]int{1: 0, 2: 1, 3: 3, 4: 5} {
		code, e := flag.Two(k)
		if flag.Check(k, 2, code) != api.OK || !isFree(code) || len(code) != want || len(code) != k*k/3 || e != api.OK {
			t.Errorf("Two(%d) = %v, %d", k, code, e)
		}
		for _, other := range everyCode(k, 2) {
			if len(other) == want+1 && isFree(other) {
				t.Errorf("%d flags: %v has more words than %v", k, other, code)
			}
		}
	}
	for _, k := range []int{0, 5, -1, -4, 9, 1<<32 + 1, math.MaxInt, math.MinInt} {
		if got := many(flag.Two(k)); (got != outcome{true, api.ErrArg}) {
			t.Errorf("Two(%d): %v", k, got)
		}
	}
}
