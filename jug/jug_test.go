package jug_test

import (
	"math"
	"math/rand"
	"slices"
	"testing"

	"careen/api"
	"careen/jug"
)

var (
	wrongSizes   = [][]int{nil, {}, {0}, {13}, {-1}, {3, 0}, {5, 13}, {1, 2, 3, 0}, {1, 2, 3, 4, 5}, {math.MaxInt}, {math.MinInt, 1}}
	rightSizes   = [][]int{{1}, {12}, {7}, {1, 1}, {3, 5}, {5, 3}, {4, 6}, {12, 11}, {6, 6}, {8, 5, 3}, {4, 6, 9}, {6, 10, 12}, {1, 2, 12}, {2, 3, 4, 5}, {1, 1, 1, 1}, {2, 4, 2, 6}}
	wrongAmounts = []int{-1, 13, math.MinInt, math.MaxInt}
)

// wrongFillings are lists that are no fillings of the jugs.
func wrongFillings(sizes []int) [][]int {
	list := [][]int{nil, make([]int, len(sizes)-1), make([]int, len(sizes)+1), make([]int, 20)}
	for i, size := range sizes {
		for _, amount := range []int{-1, size + 1, math.MinInt, math.MaxInt} {
			f := slices.Clone(sizes)
			f[i] = amount
			list = append(list, f)
		}
	}
	return list
}

// allFillings are all fillings of the jugs.
func allFillings(sizes []int) [][]int {
	list := [][]int{{}}
	for _, size := range sizes {
		var longer [][]int
		for _, f := range list {
			for amount := range size + 1 {
				longer = append(longer, append(slices.Clone(f), amount))
			}
		}
		list = longer
	}
	return list
}

func someFilling(r *rand.Rand, sizes []int) []int {
	var f []int
	for _, size := range sizes {
		f = append(f, r.Intn(size+1))
	}
	return f
}

// isStep tells whether a step is one, by the definition.
func isStep(n int, step [2]int) bool {
	isJug := func(i int) bool { return i >= 0 && i < n }
	isEnd := func(i int) bool { return i == -1 || isJug(i) }
	return isEnd(step[0]) && isEnd(step[1]) && step[0] != step[1]
}

// poured is the filling after a step, found drop by drop.
func poured(sizes, filling []int, step [2]int) []int {
	f := slices.Clone(filling)
	for {
		from, to := step[0], step[1]
		if from != -1 && f[from] == 0 || to != -1 && f[to] == sizes[to] {
			return f
		}
		if from != -1 {
			f[from]--
		}
		if to != -1 {
			f[to]++
		}
	}
}

// stepsOf are all steps of n jugs, rising.
func stepsOf(n int, closed bool) [][2]int {
	var list [][2]int
	for from := -3; from < n+3; from++ {
		for to := -3; to < n+3; to++ {
			step := [2]int{from, to}
			if isStep(n, step) && !(closed && min(from, to) < 0) {
				list = append(list, step)
			}
		}
	}
	return list
}

// P2.1: jugs, and what are none.
func TestCheck(t *testing.T) {
	for _, sizes := range wrongSizes {
		if e := jug.Check(sizes); e != api.ErrJugs {
			t.Errorf("Check(%v) = %d", sizes, e)
		}
	}
	for _, sizes := range rightSizes {
		if e := jug.Check(sizes); e != api.OK {
			t.Errorf("Check(%v) = %d", sizes, e)
		}
	}
}

// P2.1: fillings, and what are none.
func TestCheckFilling(t *testing.T) {
	for _, sizes := range rightSizes {
		for _, f := range allFillings(sizes) {
			if e := jug.CheckFilling(sizes, f); e != api.OK {
				t.Fatalf("CheckFilling(%v, %v) = %d", sizes, f, e)
			}
		}
		for _, f := range wrongFillings(sizes) {
			if e := jug.CheckFilling(sizes, f); e != api.ErrArg {
				t.Errorf("CheckFilling(%v, %v) = %d", sizes, f, e)
			}
		}
	}
}

// P2.1: all functions that take sizes return ErrJugs first, with zero values beside it.
func TestWrongSizes(t *testing.T) {
	for _, sizes := range wrongSizes {
		expectErrors(t, api.ErrJugs, sizes, sizes, sizes)
		expectErrors(t, api.ErrJugs, sizes, []int{-1}, []int{99})
		for _, amount := range append([]int{0, 1, 12}, wrongAmounts...) {
			expectNoAmount(t, api.ErrJugs, sizes, amount)
		}
		if e := jug.CheckFilling(sizes, sizes); e != api.ErrJugs {
			t.Errorf("CheckFilling(%v) = %d", sizes, e)
		}
		if list, e := jug.Amounts(sizes); len(list) != 0 || e != api.ErrJugs {
			t.Errorf("Amounts(%v) = %v, %d", sizes, list, e)
		}
	}
}

// P2.1: all functions that take fillings return ErrArg, with zero values beside it.
func TestWrongFillings(t *testing.T) {
	for _, sizes := range rightSizes {
		empty := make([]int, len(sizes))
		for _, f := range wrongFillings(sizes) {
			expectErrors(t, api.ErrArg, sizes, f, empty)
			expectErrors(t, api.ErrArg, sizes, f, f)
			expectPairErrors(t, api.ErrArg, sizes, empty, f)
		}
	}
}

// expectErrors expects the error of all functions that take sizes and a filling, or two of them.
func expectErrors(t *testing.T, want api.Errno, sizes, from, to []int) {
	t.Helper()
	for _, closed := range []bool{false, true} {
		if list, e := jug.Steps(sizes, from, closed); len(list) != 0 || e != want {
			t.Errorf("Steps(%v, %v) = %v, %d", sizes, from, list, e)
		}
		if n, e := jug.Reached(sizes, from, closed); n != 0 || e != want {
			t.Errorf("Reached(%v, %v) = %d, %d", sizes, from, n, e)
		}
		if n, e := jug.Farthest(sizes, from, closed); n != 0 || e != want {
			t.Errorf("Farthest(%v, %v) = %d, %d", sizes, from, n, e)
		}
	}
	for _, way := range [][][2]int{nil, {{-1, 0}}, {{7, 7}}} {
		if f, n, e := jug.Pour(sizes, from, way); len(f) != 0 || n != 0 || e != want {
			t.Errorf("Pour(%v, %v) = %v, %d, %d", sizes, from, f, n, e)
		}
	}
	expectPairErrors(t, want, sizes, from, to)
}

// expectPairErrors expects the error of the functions that take two fillings.
func expectPairErrors(t *testing.T, want api.Errno, sizes, from, to []int) {
	t.Helper()
	for _, closed := range []bool{false, true} {
		if way, ok, e := jug.Way(sizes, from, to, closed); len(way) != 0 || ok || e != want {
			t.Errorf("Way(%v, %v, %v) = %v, %t, %d", sizes, from, to, way, ok, e)
		}
	}
	if is, e := jug.Back(sizes, from, to); is || e != want {
		t.Errorf("Back(%v, %v, %v) = %t, %d", sizes, from, to, is, e)
	}
}

// expectNoAmount expects the error of the functions that take sizes and an amount.
func expectNoAmount(t *testing.T, want api.Errno, sizes []int, amount int) {
	t.Helper()
	if way, ok, e := jug.Measure(sizes, amount); len(way) != 0 || ok || e != want {
		t.Errorf("Measure(%v, %d) = %v, %t, %d", sizes, amount, way, ok, e)
	}
	if n, ok, e := jug.Fewest(sizes, amount); n != 0 || ok || e != want {
		t.Errorf("Fewest(%v, %d) = %d, %t, %d", sizes, amount, n, ok, e)
	}
}

// P2.1: Steps, against all pairs of numbers.
func TestSteps(t *testing.T) {
	for _, sizes := range rightSizes {
		for _, f := range allFillings(sizes) {
			for _, closed := range []bool{false, true} {
				var want [][2]int
				for _, step := range stepsOf(len(sizes), closed) {
					if !slices.Equal(poured(sizes, f, step), f) {
						want = append(want, step)
					}
				}
				if got, e := jug.Steps(sizes, f, closed); !slices.Equal(got, want) || e != api.OK {
					t.Fatalf("Steps(%v, %v, %t) = %v, %d, not %v", sizes, f, closed, got, e, want)
				}
			}
		}
	}
	want := [][2]int{{-1, 0}, {-1, 2}, {0, -1}, {0, 2}, {1, -1}, {1, 0}, {1, 2}}
	if got, e := jug.Steps([]int{8, 5, 3}, []int{4, 5, 0}, false); !slices.Equal(got, want) || e != api.OK {
		t.Errorf("Steps = %v, %d", got, e)
	}
}

// P2.1: Pour, each single step from each filling, also those that change nothing or are none.
func TestPourOnce(t *testing.T) {
	odd := []int{-2, -3, 5, 99, math.MinInt, math.MaxInt}
	for _, sizes := range rightSizes {
		ends := append([]int{-1, 0, 1, 2, 3, 4}, odd...)
		for _, f := range allFillings(sizes) {
			for _, from := range ends {
				for _, to := range ends {
					step := [2]int{from, to}
					want, n := f, 0
					if isStep(len(sizes), step) {
						want, n = poured(sizes, f, step), 1
					}
					if got, done, e := jug.Pour(sizes, f, [][2]int{step}); !slices.Equal(got, want) || done != n || e != api.OK {
						t.Fatalf("Pour(%v, %v, %v) = %v, %d, %d", sizes, f, step, got, done, e)
					}
				}
			}
		}
	}
}

// P2.1: Pour stops before the first step that is none, not at one that changes nothing.
func TestPour(t *testing.T) {
	way := [][2]int{{-1, 1}, {1, 0}, {0, -1}, {0, -1}, {1, 0}, {-1, 1}, {1, 0}}
	for _, x := range []struct {
		way  [][2]int
		want []int
		done int
	}{
		{nil, []int{0, 0}, 0},
		{way, []int{3, 4}, 7},
		{way[:4], []int{0, 2}, 4},
		{[][2]int{{-1, -1}, {-1, 0}}, []int{0, 0}, 0},
		{[][2]int{{-1, 0}, {0, 0}, {-1, 1}}, []int{3, 0}, 1},
		{[][2]int{{-1, 0}, {-1, 0}, {0, 2}, {-1, 1}}, []int{3, 0}, 2},
		{[][2]int{{-1, 0}, {-1, 1}, {0, 1}, {-2, 1}}, []int{3, 5}, 3},
	} {
		if got, done, e := jug.Pour([]int{3, 5}, []int{0, 0}, x.way); !slices.Equal(got, x.want) || done != x.done || e != api.OK {
			t.Errorf("Pour(%v) = %v, %d, %d", x.way, got, done, e)
		}
	}
	r := rand.New(rand.NewSource(1))
	for range 300 {
		sizes := rightSizes[r.Intn(len(rightSizes))]
		f := someFilling(r, sizes)
		var way [][2]int
		want := f
		for _, i := range r.Perm(12) {
			steps := stepsOf(len(sizes), false)
			way = append(way, steps[i%len(steps)])
			want = poured(sizes, want, way[len(way)-1])
		}
		way = append(way, [2]int{0, len(sizes)}, [2]int{-1, 0})
		if got, done, e := jug.Pour(sizes, f, way); !slices.Equal(got, want) || done != 12 || e != api.OK {
			t.Fatalf("Pour(%v, %v, %v) = %v, %d, %d", sizes, f, way, got, done, e)
		}
	}
}

// R4: arguments stay as they are, also beyond their lengths, and results are new memory.
func TestMemory(t *testing.T) {
	room := func(list ...int) []int { return append(slices.Clone(list), 77, 78)[:len(list)] }
	sizes, from, to := room(8, 5, 3), room(8, 0, 0), room(4, 4, 0)
	way := [][2]int{{0, 1}, {1, 2}, {9, 9}}[:2]
	got, _, _ := jug.Pour(sizes, from, way)
	got[0] = 99
	got, _, _ = jug.Pour(sizes, from, nil)
	got[0] = 99
	steps, _ := jug.Steps(sizes, from, false)
	steps[0] = [2]int{9, 9}
	once, _, _ := jug.Way(sizes, from, to, true)
	once[0] = [2]int{9, 9}
	again, _, _ := jug.Way(sizes, from, to, true)
	jug.Measure(sizes, 4)
	list, _ := jug.Amounts(sizes)
	list[0] = 99
	jug.Back(sizes, from, to)
	for _, x := range []struct{ got, want []int }{{sizes, []int{8, 5, 3}}, {from, []int{8, 0, 0}}, {to, []int{4, 4, 0}}} {
		if !slices.Equal(x.got[:5], append(x.want, 77, 78)) {
			t.Errorf("an argument is now %v", x.got[:5])
		}
	}
	if !slices.Equal(way[:3], [][2]int{{0, 1}, {1, 2}, {9, 9}}) {
		t.Errorf("the way is now %v", way[:3])
	}
	if again[0] == once[0] {
		t.Errorf("Way = %v, again %v", once, again)
	}
	if list, _ := jug.Amounts(sizes); list[0] != 0 {
		t.Errorf("Amounts = %v", list)
	}
}
