package tide_test

import (
	"math"
	"strings"
	"testing"

	"careen/api"
	"careen/tide"
)

func divisor(a, b int) int {
	for b != 0 {
		a, b = b, a%b
	}
	return a
}

// P1.5 and P1.8: all slopes.
func TestSlopes(t *testing.T) {
	for q := 1; q <= 60; q++ {
		for p := 0; p <= q; p++ {
			g := divisor(q, p)
			for r := range q {
				s, e := tide.Slope(p, q, r)
				if e != api.OK || s.First != "" || len(s.Round) != q/g || strings.Count(s.Round, "1") != p/g {
					t.Fatalf("Slope(%d, %d, %d) = %v, %d", p, q, r, s, e)
				}
				for i := range 2 * q {
					if c := s.Round[i%len(s.Round)]; (c == '1') != ((p*i+r)/q != (p*(i+1)+r)/q) {
						t.Fatalf("Slope(%d, %d, %d) = %v at %d", p, q, r, s, i)
					}
				}
				gaps, e := tide.Gaps(s)
				if p == 0 && e != api.ErrNone || p > 0 && (e != api.OK || len(gaps) > 2 || len(gaps) == 2 && gaps[1]-gaps[0] != 1) {
					t.Fatalf("Gaps of %v = %v, %d", s, gaps, e)
				}
			}
		}
	}
}

// P1.5: what is no slope.
func TestNoSlopes(t *testing.T) {
	for _, x := range [][3]int{{0, 0, 0}, {1, 0, 0}, {0, -1, 0}, {2, 1, 0}, {-1, 1, 0}, {0, 1, 1}, {0, 1, -1}, {0, 61, 0}, {61, 61, 0}, {5, 5, 5}, {math.MinInt, math.MinInt, math.MinInt}, {math.MaxInt, math.MaxInt, 0}, {1, math.MaxInt, 0}, {1, 2, math.MaxInt}} {
		if s, e := tide.Slope(x[0], x[1], x[2]); s != (tide.Tide{}) || e != api.ErrArg {
			t.Errorf("Slope of %v = %v, %d", x, s, e)
		}
	}
	for x, want := range map[[3]int]string{{2, 5, 0}: "/00101", {2, 5, 1}: "/01001", {0, 60, 59}: "/0", {60, 60, 59}: "/1", {1, 60, 59}: "/1" + strings.Repeat("0", 59)} {
		if s, e := tide.Slope(x[0], x[1], x[2]); s != of(want) || e != api.OK {
			t.Errorf("Slope of %v = %v, %d", x, s, e)
		}
	}
}
