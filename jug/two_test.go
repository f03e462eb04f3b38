package jug_test

import (
	"math"
	"slices"
	"testing"

	"careen/api"
	"careen/jug"
)

// leastOfTwo are the least numbers of steps from two empty jugs to each amount, -1 for none, by all steps from all fillings.
func leastOfTwo(a, b int) []int {
	least := slices.Repeat([]int{-1}, max(a, b)+1)
	far := map[[2]int]int{{0, 0}: 0}
	for queue := [][2]int{{0, 0}}; len(queue) > 0; queue = queue[1:] {
		x, y := queue[0][0], queue[0][1]
		n := far[queue[0]]
		for _, amount := range queue[0] {
			if least[amount] < 0 {
				least[amount] = n
			}
		}
		there, here := min(x, b-y), min(y, a-x)
		for _, next := range [][2]int{{a, y}, {x, b}, {0, y}, {x, 0}, {x - there, y + there}, {x + here, y - here}} {
			if _, known := far[next]; !known {
				far[next] = n + 1
				queue = append(queue, next)
			}
		}
	}
	return least
}

// ringOfTwo follows the definition of TwoWay for so many steps: the step, and the amounts after it.
func ringOfTwo(a, b int, first bool, steps int) (way, after [][2]int) {
	sizes, now := [2]int{a, b}, [2]int{}
	from, to := 0, 1
	if !first {
		from, to = 1, 0
	}
	for range steps {
		step := [2]int{from, to}
		if now[to] == sizes[to] {
			step, now[to] = [2]int{to, -1}, 0
		} else if now[from] == 0 {
			step, now[from] = [2]int{-1, from}, sizes[from]
		} else {
			for now[from] > 0 && now[to] < sizes[to] {
				now[from]--
				now[to]++
			}
		}
		way, after = append(way, step), append(after, now)
	}
	return way, after
}

// expectTwo checks Two and both ways of TwoWay. It returns the lengths of the two ways.
func expectTwo(t *testing.T, a, b, amount, least int) (lengths []int) {
	t.Helper()
	n, ok, e := jug.Two(a, b, amount)
	if n != max(least, 0) || ok != (least >= 0) || e != api.OK {
		t.Fatalf("Two(%d, %d, %d) = %d, %t, %d, not %d", a, b, amount, n, ok, e, least)
	}
	for _, first := range []bool{true, false} {
		got, is, e := jug.TwoWay(a, b, amount, first)
		if is != ok || e != api.OK || !is && len(got) != 0 {
			t.Fatalf("TwoWay(%d, %d, %d, %t) = %v, %t, %d", a, b, amount, first, got, is, e)
		}
		if !is {
			continue
		}
		want, after := ringOfTwo(a, b, first, len(got))
		end := 0
		if amount != 0 {
			end = 1 + slices.IndexFunc(after, func(f [2]int) bool { return f[0] == amount || f[1] == amount })
		}
		if !slices.Equal(got, want) || end != len(got) {
			t.Fatalf("TwoWay(%d, %d, %d, %t) = %v, not %v", a, b, amount, first, got, want[:end])
		}
		lengths = append(lengths, len(got))
	}
	return lengths
}

// P2.4: Two and TwoWay of all small jugs. P2.7: Two is the lesser of both ways, and Fewest.
func TestTwo(t *testing.T) {
	for a := 1; a <= 24; a++ {
		for b := 1; b <= 24; b++ {
			for amount, least := range leastOfTwo(a, b) {
				lengths := expectTwo(t, a, b, amount, least)
				if least >= 0 && slices.Min(lengths) != least {
					t.Fatalf("jugs %d and %d, amount %d: ways of %v, the least has %d", a, b, amount, lengths, least)
				}
				if a > 12 || b > 12 {
					continue
				}
				n, ok, e := jug.Fewest([]int{a, b}, amount)
				if n != max(least, 0) || ok != (least >= 0) || e != api.OK {
					t.Fatalf("Fewest(%d, %d, %d) = %d, %t, %d", a, b, amount, n, ok, e)
				}
			}
		}
	}
}

// P2.4: the largest jugs, some with a common divisor.
func TestLargeTwo(t *testing.T) {
	for _, x := range [][2]int{{1000, 1000}, {1000, 999}, {999, 1000}, {1000, 1}, {1, 1000}, {997, 618}, {600, 1000}, {500, 1000}, {13, 990}} {
		least := leastOfTwo(x[0], x[1])
		for amount := 0; amount < len(least); amount += 37 {
			expectTwo(t, x[0], x[1], amount, least[amount])
		}
		for _, amount := range []int{1, x[0] - 1, x[1], max(x[0], x[1])} {
			expectTwo(t, x[0], x[1], min(amount, len(least)-1), least[min(amount, len(least)-1)])
		}
	}
	if n, ok, e := jug.Two(3, 5, 4); n != 6 || !ok || e != api.OK {
		t.Errorf("Two = %d, %t, %d", n, ok, e)
	}
}

// P2.4: ErrArg for wrong sizes and amounts.
func TestWrongTwo(t *testing.T) {
	for _, x := range [][3]int{{0, 5, 1}, {5, 0, 1}, {1001, 5, 1}, {5, 1001, 1}, {-3, 5, 1}, {3, -5, 1}, {3, 5, -1}, {3, 5, 6}, {5, 3, 6}, {7, 7, 8}, {1000, 1000, 1001}, {0, 0, 0}, {math.MinInt, math.MaxInt, 0}, {math.MaxInt, 1, math.MaxInt}, {1, 1, math.MinInt}, {1, 1, math.MaxInt}} {
		if n, ok, e := jug.Two(x[0], x[1], x[2]); n != 0 || ok || e != api.ErrArg {
			t.Errorf("Two%v = %d, %t, %d", x, n, ok, e)
		}
		for _, first := range []bool{true, false} {
			if way, ok, e := jug.TwoWay(x[0], x[1], x[2], first); len(way) != 0 || ok || e != api.ErrArg {
				t.Errorf("TwoWay%v = %v, %t, %d", x, way, ok, e)
			}
		}
	}
}
