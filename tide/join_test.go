package tide_test

import (
	"math"
	"math/rand"
	"strings"
	"testing"

	"careen/api"
	"careen/tide"
)

// combine joins two lists of marks hour by hour.
func combine(p, q string, join func(x, y bool) bool) string {
	b := make([]byte, len(p))
	for i := range b {
		b[i] = '0'
		if join(in(p, i), in(q, i)) {
			b[i] = '1'
		}
	}
	return string(b)
}

func and(x, y bool) bool    { return x && y }
func or(x, y bool) bool     { return x || y }
func not(x string) string   { return combine(x, x, func(x, _ bool) bool { return !x }) }
func later(x string) string { return "0" + x[:len(x)-1] }

// add lists the sums of two lists of marks, as far as they go.
func add(p, q string) string {
	b := []byte(strings.Repeat("0", len(p)))
	for i := range p {
		for k := 0; in(p, i) && i+k < len(p); k++ {
			if in(q, k) {
				b[i+k] = '1'
			}
		}
	}
	return string(b)
}

// expect checks that a result is a form and has the hours that are told, or that none has them.
func expect(t *testing.T, name string, got tide.Tide, e api.Errno, told string) {
	t.Helper()
	if e == api.ErrLarge {
		if got != (tide.Tide{}) || fits(told) {
			t.Fatalf("%s: %v, %d", name, got, e)
		}
		return
	}
	f, _ := tide.Form(got)
	if e != api.OK || f != got || bits(got, len(told)) != told {
		t.Fatalf("%s: %v, %d, form %v", name, got, e, f)
	}
}

// P1.2: all small tides, and pairs of them.
func TestSmallOperations(t *testing.T) {
	all := small(2, 4)
	for _, a := range all {
		p := bits(a, 300)
		f, e := tide.Not(a)
		expect(t, "Not", f, e, not(p))
		told := p
		for n := range 61 {
			f, e := tide.Later(a, n)
			expect(t, "Later", f, e, told)
			told = later(told)
		}
	}
	all = small(2, 3)
	for _, a := range all {
		p := bits(a, 70)
		for _, b := range all {
			q := bits(b, 70)
			f, e := tide.Both(a, b)
			expect(t, "Both", f, e, combine(p, q, and))
			f, e = tide.Either(a, b)
			expect(t, "Either", f, e, combine(p, q, or))
			f, e = tide.Sum(a, b)
			expect(t, "Sum", f, e, add(p, q))
		}
	}
}

// P1.2: long tides, whose results are often too large.
func TestLongOperations(t *testing.T) {
	r := rand.New(rand.NewSource(2))
	const end = 60 + 2*59*60
	large := 0
	for i := range 150 {
		a, b := random(r), random(r)
		p, q := bits(a, end), bits(b, end)
		f, e := tide.Both(a, b)
		expect(t, "Both", f, e, combine(p, q, and))
		f, e = tide.Either(a, b)
		expect(t, "Either", f, e, combine(p, q, or))
		if e == api.ErrLarge {
			large++
		}
		if i%5 == 0 { // to list sums by their definition takes a while
			f, e = tide.Sum(a, b)
			expect(t, "Sum", f, e, add(p, q))
		}
		f, e = tide.Not(a)
		expect(t, "Not", f, e, not(p))
		n := r.Intn(61)
		f, e = tide.Later(a, n)
		expect(t, "Later", f, e, (strings.Repeat("0", n) + p)[:end])
	}
	if large == 0 {
		t.Error("no result was too large")
	}
}

// P1.2: sums that repeat themselves late, and fit although the common round does not.
func TestSums(t *testing.T) {
	for _, x := range []struct {
		a, b, want string
		e          api.Errno
	}{
		{"/100", "01/0", "/010", api.OK},
		{"/0", "/1", "/0", api.OK},
		{"/1", "0001/0", "000/1", api.OK},
		{"/10", "/100", "10/1", api.OK},
		{"/1000000", "/100000000", "100000010100001010100101010110101011110101111110/1", api.OK},
		{"/" + strings.Repeat("0", 58) + "1", "/" + strings.Repeat("0", 59) + "1", "/", api.ErrLarge},
		{strings.Repeat("0", 30) + "1/0", strings.Repeat("0", 29) + "1/0", strings.Repeat("0", 59) + "1/0", api.OK},
		{strings.Repeat("0", 30) + "1/0", strings.Repeat("0", 30) + "1/0", "/", api.ErrLarge},
	} {
		if s, e := tide.Sum(of(x.a), of(x.b)); e != x.e || e == api.OK && !same(s, of(x.want)) {
			t.Errorf("Sum(%s, %s) = %v, %d", x.a, x.b, s, e)
		}
	}
	if b, e := tide.Both(of("/100"), of("/10")); b != of("/100000") || e != api.OK {
		t.Errorf("Both = %v, %d", b, e)
	}
}

func same(a, b tide.Tide) bool {
	_, is, e := tide.Same(a, b)
	return is && e == api.OK
}

// P1.2: the edges at 60 characters, and the numbers that Later takes.
func TestLarge(t *testing.T) {
	hour := of("1/0")
	if f, e := tide.Later(hour, 59); f != of(strings.Repeat("0", 59)+"1/0") || e != api.OK {
		t.Errorf("Later by 59 = %v, %d", f, e)
	}
	if f, e := tide.Later(hour, 60); f != (tide.Tide{}) || e != api.ErrLarge {
		t.Errorf("Later by 60 = %v, %d", f, e)
	}
	if f, e := tide.Later(of("/1"), 60); f != of(strings.Repeat("0", 60)+"/1") || e != api.OK {
		t.Errorf("Later by 60 = %v, %d", f, e)
	}
	four, fifteen, seven := of("/1000"), of("/"+"1"+strings.Repeat("0", 14)), of("/1000000")
	if f, e := tide.Both(four, fifteen); f != of("/1"+strings.Repeat("0", 59)) || e != api.OK {
		t.Errorf("Both = %v, %d", f, e)
	}
	for _, call := range []func(a, b tide.Tide) (tide.Tide, api.Errno){tide.Both, tide.Either} {
		if f, e := call(seven, fifteen); f != (tide.Tide{}) || e != api.ErrLarge {
			t.Errorf("a common round of 105 hours: %v, %d", f, e)
		}
	}
	for _, n := range []int{-1, 61, math.MinInt, math.MaxInt} {
		if f, e := tide.Later(hour, n); f != (tide.Tide{}) || e != api.ErrArg {
			t.Errorf("Later by %d = %v, %d", n, f, e)
		}
	}
}

// must are calls whose results fit.
func must(t *testing.T, call func(a, b tide.Tide) (tide.Tide, api.Errno)) func(a, b tide.Tide) tide.Tide {
	return func(a, b tide.Tide) tide.Tide {
		f, e := call(a, b)
		if e != api.OK {
			t.Fatalf("%v, %v: error %d", a, b, e)
		}
		return f
	}
}

// P1.6: the laws of a Boolean algebra, and those of sums.
func TestLaws(t *testing.T) {
	both, either, sum := must(t, tide.Both), must(t, tide.Either), must(t, tide.Sum)
	not := func(a tide.Tide) tide.Tide {
		return must(t, func(a, _ tide.Tide) (tide.Tide, api.Errno) { return tide.Not(a) })(a, a)
	}
	all := append(small(1, 2), of("/100"), of("010/0"), of("11/011"))
	for _, a := range all {
		f, _ := tide.Form(a)
		if not(not(a)) != f || both(a, not(a)) != of("/0") || either(a, not(a)) != of("/1") {
			t.Fatalf("Not of %v: %v", a, not(a))
		}
		if both(a, a) != f || either(a, a) != f || sum(a, of("1/0")) != f || sum(a, of("/0")) != of("/0") {
			t.Fatalf("%v with itself or with nothing", a)
		}
		for _, b := range all {
			if both(a, b) != both(b, a) || either(a, b) != either(b, a) || sum(a, b) != sum(b, a) {
				t.Fatalf("%v and %v exchanged", a, b)
			}
			if not(both(a, b)) != either(not(a), not(b)) || either(a, both(a, b)) != f || both(a, either(a, b)) != f {
				t.Fatalf("%v and %v", a, b)
			}
			for _, c := range all {
				if both(a, either(b, c)) != either(both(a, b), both(a, c)) || either(a, both(b, c)) != both(either(a, b), either(a, c)) {
					t.Fatalf("%v, %v and %v are not distributive", a, b, c)
				}
				if both(a, both(b, c)) != both(both(a, b), c) || either(a, either(b, c)) != either(either(a, b), c) {
					t.Fatalf("%v, %v and %v are not associative", a, b, c)
				}
				if sum(a, either(b, c)) != either(sum(a, b), sum(a, c)) {
					t.Fatalf("the sums of %v, %v and %v are not distributive", a, b, c)
				}
			}
		}
	}
}
