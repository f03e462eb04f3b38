package tide_test

import (
	"math"
	"math/rand"
	"slices"
	"strings"
	"testing"

	"careen/api"
	"careen/tide"
)

// samples are small tides, and long ones.
func samples() []tide.Tide {
	r := rand.New(rand.NewSource(3))
	list := append(small(3, 4), of(strings.Repeat("0", 60)+"/"+strings.Repeat("0", 59)+"1"), of(strings.Repeat("1", 60)+"/0"))
	for range 300 {
		list = append(list, random(r))
	}
	return list
}

// P1.3: Wait, Count, Nth and Endless, against the hours written out.
func TestWaiting(t *testing.T) {
	for _, x := range samples() {
		s := bits(x, 500)
		n := 0
		for hour := range 300 {
			want := strings.Index(s[hour:], "1")
			e := api.OK
			if want < 0 {
				want, e = 0, api.ErrNone
			}
			if got, f := tide.Wait(x, hour); got != want || f != e {
				t.Fatalf("Wait(%v, %d) = %d, %d", x, hour, got, f)
			}
			if got, f := tide.Count(x, hour); got != n || f != api.OK {
				t.Fatalf("Count(%v, %d) = %d, %d", x, hour, got, f)
			}
			if in(s, hour) {
				if got, f := tide.Nth(x, n); got != hour || f != api.OK {
					t.Fatalf("Nth(%v, %d) = %d, %d", x, n, got, f)
				}
				n++
			}
		}
		endless := strings.Contains(s[300:], "1")
		if got, e := tide.Endless(x); got != endless || e != api.OK {
			t.Fatalf("Endless(%v) = %t, %d", x, got, e)
		}
		if endless {
			continue
		}
		for _, k := range []int{n, n + 1, 1_000_000} {
			if got, e := tide.Nth(x, k); got != 0 || e != api.ErrNone {
				t.Fatalf("Nth(%v, %d) = %d, %d", x, k, got, e)
			}
		}
	}
}

// P1.3: the greatest numbers, and those beyond them.
func TestFarHours(t *testing.T) {
	rare := of(strings.Repeat("0", 60) + "/" + strings.Repeat("0", 59) + "1")
	if n, e := tide.Nth(rare, 1_000_000); n != 60+60*1_000_001-1 || e != api.OK {
		t.Errorf("Nth = %d, %d", n, e)
	}
	if n, e := tide.Count(rare, 1_000_000_000); n != (1_000_000_000-60)/60 || e != api.OK {
		t.Errorf("Count = %d, %d", n, e)
	}
	if n, e := tide.Wait(rare, 1_000_000_000); n != 60-1-(1_000_000_000-60)%60 || e != api.OK {
		t.Errorf("Wait = %d, %d", n, e)
	}
	if n, e := tide.Wait(of("1/0"), 1_000_000_000); n != 0 || e != api.ErrNone {
		t.Errorf("Wait = %d, %d", n, e)
	}
	if n, e := tide.Count(of("101/0"), 1_000_000_000); n != 2 || e != api.OK {
		t.Errorf("Count = %d, %d", n, e)
	}
	for _, x := range []tide.Tide{of("/1"), of("/0")} {
		for _, n := range []int{-1, 1_000_001, math.MinInt, math.MaxInt} {
			if hour, e := tide.Nth(x, n); hour != 0 || e != api.ErrArg {
				t.Errorf("Nth(%v, %d) = %d, %d", x, n, hour, e)
			}
		}
	}
}

// windows are the first of the longest windows, by all windows that begin in the hours that are told.
func windows(s string) (from, length int) {
	for i := range s {
		n := 0
		for i+n < len(s) && in(s, i+n) {
			n++
		}
		if n > length {
			from, length = i, n
		}
	}
	return from, length
}

// P1.4: Longest, Worst and Gaps, against the hours written out.
func TestWindows(t *testing.T) {
	for _, x := range samples() {
		s := bits(x, 400)
		from, length := windows(s)
		e := api.OK
		if length == 0 || from+length == len(s) {
			from, length, e = 0, 0, api.ErrNone
		}
		if a, b, f := tide.Longest(x); a != from || b != length || f != e {
			t.Fatalf("Longest(%v) = %d, %d, %d, not %d, %d, %d", x, a, b, f, from, length, e)
		}
		worst, gaps := 0, []int(nil)
		e = api.ErrNone
		if strings.Contains(s[200:], "1") {
			e = api.OK
			for hour := range 200 {
				worst = max(worst, strings.Index(s[hour:], "1"))
			}
			for hour := 120; hour < 240; hour++ {
				if gap := strings.Index(s[hour+1:], "1") + 1; in(s, hour) && !slices.Contains(gaps, gap) {
					gaps = append(gaps, gap)
				}
			}
			slices.Sort(gaps)
		}
		if n, f := tide.Worst(x); n != worst || f != e {
			t.Fatalf("Worst(%v) = %d, %d, not %d", x, n, f, worst)
		}
		if l, f := tide.Gaps(x); !slices.Equal(l, gaps) || f != e {
			t.Fatalf("Gaps(%v) = %v, %d, not %v", x, l, f, gaps)
		}
	}
}

// P1.4: windows across the end of First and of Round, the first of several, and windows without end.
func TestLongest(t *testing.T) {
	for text, want := range map[string][3]int{
		"/0":                                {0, 0, int(api.ErrNone)},
		"000/000":                           {0, 0, int(api.ErrNone)},
		"/1":                                {0, 0, int(api.ErrNone)},
		"1110/111":                          {0, 0, int(api.ErrNone)},
		"011/110":                           {1, 4, int(api.OK)},
		"/1101":                             {3, 3, int(api.OK)},
		"11/011":                            {0, 2, int(api.OK)},
		"0011/0":                            {2, 2, int(api.OK)},
		strings.Repeat("1", 60) + "/10":     {0, 61, int(api.OK)},
		"/" + strings.Repeat("1", 59) + "0": {0, 59, int(api.OK)},
	} {
		from, length, e := tide.Longest(of(text))
		if [3]int{from, length, int(e)} != want {
			t.Errorf("Longest(%s) = %d, %d, %d", text, from, length, e)
		}
	}
}

// R4: the gaps are new memory in each call.
func TestGapsAreNew(t *testing.T) {
	gaps, _ := tide.Gaps(of("/1001"))
	gaps[0] = 99
	if again, e := tide.Gaps(of("/1001")); !slices.Equal(again, []int{1, 3}) || e != api.OK {
		t.Errorf("Gaps = %v, %d", again, e)
	}
}

// P1.7: Nth and Count are inverse, and waits count down.
func TestInverse(t *testing.T) {
	for _, x := range samples() {
		for _, n := range []int{0, 1, 7, 59, 60, 61, 500, 999_999, 1_000_000} {
			hour, e := tide.Nth(x, n)
			if e == api.ErrNone {
				continue
			}
			has, f := tide.Has(x, hour)
			if k, g := tide.Count(x, hour); k != n || !has || e != api.OK || f != api.OK || g != api.OK {
				t.Fatalf("%v: Nth of %d is %d, Count of it %d, errors %d, %d, %d", x, n, hour, k, e, f, g)
			}
		}
		for _, hour := range []int{0, 1, 30, 59, 60, 61, 119, 120, 999_999_999} {
			wait, e := tide.Wait(x, hour)
			if wait == 0 {
				continue
			}
			if next, f := tide.Wait(x, hour+1); next+1 != wait || e != api.OK || f != api.OK {
				t.Fatalf("%v: waits at %d: %d, then %d", x, hour, wait, next)
			}
		}
	}
}
