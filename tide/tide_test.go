package tide_test

import (
	"math"
	"math/rand"
	"strings"
	"testing"

	"careen/api"
	"careen/tide"
)

// of is the tide of two strings with / between them.
func of(text string) tide.Tide {
	first, round, _ := strings.Cut(text, "/")
	return tide.Tide{First: first, Round: round}
}

// texts are all strings of marks of from least to most characters.
func texts(least, most int) []string {
	var list []string
	level := []string{""}
	for n := 0; n <= most; n++ {
		if n >= least {
			list = append(list, level...)
		}
		var longer []string
		for _, s := range level {
			longer = append(longer, s+"0", s+"1")
		}
		level = longer
	}
	return list
}

// small are all tides whose First and Round have at most so many characters.
func small(first, round int) []tide.Tide {
	var list []tide.Tide
	for _, f := range texts(0, first) {
		for _, r := range texts(1, round) {
			list = append(list, tide.Tide{First: f, Round: r})
		}
	}
	return list
}

// random is a tide with strings of any length; the seldom-marked ones have longer waits.
func random(r *rand.Rand) tide.Tide {
	density := 1 + r.Intn(12)
	text := func(n int) string {
		b := make([]byte, n)
		for i := range b {
			b[i] = '0'
			if r.Intn(density) == 0 {
				b[i] = '1'
			}
		}
		return string(b)
	}
	return tide.Tide{First: text(r.Intn(61)), Round: text(1 + r.Intn(60))}
}

// bits are the hours before n, written out by the definition.
func bits(t tide.Tide, n int) string {
	s := t.First
	for len(s) < n {
		s += t.Round
	}
	return s[:n]
}

func in(s string, hour int) bool { return s[hour] == '1' }

// fits reports whether a tide with strings of at most 60 characters has these hours, which are told far enough.
func fits(s string) bool {
	for round := 1; round <= 60; round++ {
		if s[60:len(s)-round] == s[60+round:] {
			return true
		}
	}
	return false
}

var wrong = []tide.Tide{of("/"), of("1/"), of("/2"), of("2/0"), of("0 /0"), of("/0 "), of("/-"), of("/\x00"), of("/\xff"), of("é/0"), of("/１"), of(strings.Repeat("0", 61) + "/0"), of("/" + strings.Repeat("0", 61)), of("/" + strings.Repeat("1", 5000))}

// P1.1: Check, and what a tide is.
func TestCheck(t *testing.T) {
	for _, x := range wrong {
		if e := tide.Check(x); e != api.ErrTide {
			t.Errorf("Check(%q) = %d", x, e)
		}
	}
	good := append(small(3, 3), of(strings.Repeat("0", 60)+"/0"), of("/"+strings.Repeat("1", 60)), of(strings.Repeat("1", 60)+"/"+strings.Repeat("01", 30)))
	for _, x := range good {
		if e := tide.Check(x); e != api.OK {
			t.Errorf("Check(%q) = %d", x, e)
		}
	}
}

// P1.1: all functions return ErrTide first, with zero values beside it.
func TestWrongTides(t *testing.T) {
	ok := of("/1")
	for _, x := range wrong {
		is := func(name string, zero bool, e api.Errno) {
			t.Helper()
			if !zero || e != api.ErrTide {
				t.Errorf("%s of %q: zero values %t, error %d", name, x, zero, e)
			}
		}
		for _, hour := range []int{0, -1, 1_000_000_001} {
			has, e := tide.Has(x, hour)
			is("Has", !has, e)
			n, e := tide.Wait(x, hour)
			is("Wait", n == 0, e)
			n, e = tide.Count(x, hour)
			is("Count", n == 0, e)
			n, e = tide.Nth(x, hour)
			is("Nth", n == 0, e)
			late, e := tide.Later(x, hour)
			is("Later", late == tide.Tide{}, e)
		}
		f, e := tide.Form(x)
		is("Form", f == tide.Tide{}, e)
		f, e = tide.Not(x)
		is("Not", f == tide.Tide{}, e)
		for _, pair := range [][2]tide.Tide{{x, ok}, {ok, x}, {x, x}} {
			hour, same, e := tide.Same(pair[0], pair[1])
			is("Same", hour == 0 && !same, e)
			for _, call := range []func(a, b tide.Tide) (tide.Tide, api.Errno){tide.Both, tide.Either, tide.Sum} {
				f, e := call(pair[0], pair[1])
				is("a call of two", f == tide.Tide{}, e)
			}
		}
		yes, e := tide.Endless(x)
		is("Endless", !yes, e)
		from, length, e := tide.Longest(x)
		is("Longest", from == 0 && length == 0, e)
		n, e := tide.Worst(x)
		is("Worst", n == 0, e)
		gaps, e := tide.Gaps(x)
		is("Gaps", len(gaps) == 0, e)
	}
}

// P1.1: ErrArg for hours that are not from 0 to 10^9.
func TestWrongHours(t *testing.T) {
	for _, x := range []tide.Tide{of("/1"), of("/0"), of("01/001")} {
		for _, hour := range []int{-1, 1_000_000_001, math.MinInt, math.MaxInt} {
			if has, e := tide.Has(x, hour); has || e != api.ErrArg {
				t.Errorf("Has(%v, %d) = %t, %d", x, hour, has, e)
			}
			if n, e := tide.Wait(x, hour); n != 0 || e != api.ErrArg {
				t.Errorf("Wait(%v, %d) = %d, %d", x, hour, n, e)
			}
			if n, e := tide.Count(x, hour); n != 0 || e != api.ErrArg {
				t.Errorf("Count(%v, %d) = %d, %d", x, hour, n, e)
			}
		}
	}
}

// P1.1: Has.
func TestHas(t *testing.T) {
	r := rand.New(rand.NewSource(1))
	for range 200 {
		x := random(r)
		s := bits(x, 300)
		for hour := range 300 {
			if has, e := tide.Has(x, hour); has != in(s, hour) || e != api.OK {
				t.Fatalf("Has(%v, %d) = %t, %d", x, hour, has, e)
			}
		}
	}
	for hour, want := range map[int]bool{0: true, 1: false, 999_999_999: false, 1_000_000_000: true} {
		if has, e := tide.Has(of("1/01"), hour); has != want || e != api.OK {
			t.Errorf("Has at %d = %t, %d", hour, has, e)
		}
	}
}

// P1.1: Form is the shortest of all tides with the same hours: first by Round, then by First.
func TestForm(t *testing.T) {
	all := small(4, 4)
	shortest := map[string]tide.Tide{}
	for _, x := range all {
		s := bits(x, 40)
		y, known := shortest[s]
		if !known || len(x.Round) < len(y.Round) || len(x.Round) == len(y.Round) && len(x.First) < len(y.First) {
			shortest[s] = x
		}
	}
	for _, x := range all {
		if f, e := tide.Form(x); f != shortest[bits(x, 40)] || e != api.OK {
			t.Fatalf("Form(%v) = %v, %d", x, f, e)
		}
	}
	for text, want := range map[string]string{
		"1/01":                                   "/10",
		strings.Repeat("0", 60) + "/0":           "/0",
		strings.Repeat("0", 59) + "1/0":          strings.Repeat("0", 59) + "1/0",
		"/" + strings.Repeat("001", 20):          "/001",
		"/" + strings.Repeat("0", 59) + "1":      "/" + strings.Repeat("0", 59) + "1",
		"0/" + strings.Repeat("1", 59) + "0":     "/0" + strings.Repeat("1", 59),
		strings.Repeat("10", 30) + "/1010101010": "/10",
	} {
		if f, e := tide.Form(of(text)); f != of(want) || e != api.OK {
			t.Errorf("Form(%s) = %v, %d", text, f, e)
		}
	}
}

// P1.1: Same. P1.6: forms are the same just if the hours are.
func TestSame(t *testing.T) {
	all := small(3, 3)
	for _, a := range all {
		p := bits(a, 30)
		f, _ := tide.Form(a)
		for _, b := range all {
			q := bits(b, 30)
			g, _ := tide.Form(b)
			want := 0
			for p != q && p[want] == q[want] {
				want++
			}
			if hour, same, e := tide.Same(a, b); hour != want || same != (p == q) || e != api.OK {
				t.Fatalf("Same(%v, %v) = %d, %t, %d", a, b, hour, same, e)
			}
			if (f == g) != (p == q) {
				t.Fatalf("Form of %v and %v: %v, %v", a, b, f, g)
			}
		}
	}
	// The first difference of these comes only in the last hour of their common round.
	late := of(strings.Repeat("0", 60) + "/" + strings.Repeat("0", 59) + "1")
	early := of("/" + strings.Repeat("0", 59))
	if hour, same, e := tide.Same(early, late); hour != 119 || same || e != api.OK {
		t.Errorf("Same = %d, %t, %d", hour, same, e)
	}
	a, b := of("/"+strings.Repeat("1", 59)), of("1/1")
	if hour, same, e := tide.Same(a, b); hour != 0 || !same || e != api.OK {
		t.Errorf("Same = %d, %t, %d", hour, same, e)
	}
}
