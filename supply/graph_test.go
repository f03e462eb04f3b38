package supply_test

import (
	"math"
	"math/rand"
	"slices"
	"testing"

	"careen/api"
	"careen/supply"
)

// odd are moves that no graph of four places has.
var odd = []move{{0, 0}, {-1, 0}, {0, -1}, {4, 0}, {0, 4}, {5, 6}, {1, 7}, {math.MinInt, 1}, {1, math.MaxInt}, {1 << 32, 1}}

// P8.1: Moves are all those that can be made, rising.
func TestMoves(t *testing.T) {
	for _, g := range upTo(4) {
		for sum := range 7 {
			for _, supplies := range sums(g.n, sum) {
				var want []move
				for from := range g.n {
					for to := range g.n {
						if g.joins(from, to) && supplies[from] > 1 {
							want = append(want, move{from, to})
						}
					}
				}
				if got, e := supply.Moves(g.n, g.edges, supplies); !slices.Equal(got, want) || e != api.OK {
					t.Errorf("Moves(%v, %v) = %v, %d, not %v", g, supplies, got, e, want)
				}
			}
		}
	}
	if moves, e := supply.Moves(6, all(6), []int{6, 7, 6, 7, 7, 7}); len(moves) != 30 || e != api.OK {
		t.Errorf("%d moves, %d", len(moves), e)
	}
}

// P8.1: Do makes moves up to the first one that cannot be made.
func TestDo(t *testing.T) {
	r := rand.New(rand.NewSource(81))
	var stopped, ended int
	for _, g := range someGraphs(r, 4, 40) {
		choices := slices.Clone(odd[:1])
		for _, edge := range g.edges {
			choices = append(choices, edge, move{edge[1], edge[0]}, edge, move{edge[1], edge[0]})
		}
		for range 300 {
			supplies := someSupplies(r, 4, r.Intn(most+1))
			moves := make([]move, r.Intn(9))
			for i := range moves {
				moves[i] = choices[r.Intn(len(choices))]
				if r.Intn(30) == 0 {
					moves[i] = odd[r.Intn(len(odd))]
				}
			}
			want, made := stateOf(supplies), 0
			for made < len(moves) {
				next, can := g.after(want, moves[made])
				if !can {
					stopped++
					break
				}
				want = next
				made++
			}
			if made == len(moves) {
				ended++
			}
			left, count, e := supply.Do(4, g.edges, supplies, moves)
			if !slices.Equal(left, want.list(4)) || count != made || e != api.OK {
				t.Errorf("Do(%v, %v, %v) = %v, %d, %d, not %v, %d", g, supplies, moves, left, count, e, want, made)
			}
		}
	}
	if stopped < 1000 || ended < 1000 {
		t.Errorf("%d lists came to an end, %d did not", ended, stopped)
	}
}

// P8.1: no move along what is not an edge can be made, and none that needs a second supply.
func TestDoOdd(t *testing.T) {
	g, supplies := graph{4, []move{{0, 1}, {0, 2}, {2, 3}}}, []int{9, 9, 9, 1}
	for _, m := range append(slices.Clone(odd), move{1, 2}, move{2, 1}, move{3, 1}, move{0, 3}, move{3, 2}) {
		left, made, e := supply.Do(4, g.edges, supplies, []move{{0, 1}, m, {0, 1}})
		if !slices.Equal(left, []int{7, 10, 9, 1}) || made != 1 || e != api.OK {
			t.Errorf("%v: %v, %d, %d", m, left, made, e)
		}
		if is, e := supply.IsPlan(4, g.edges, supplies, 0, []move{{0, 1}, m}); is || e != api.OK {
			t.Errorf("%v: IsPlan is %t, %d", m, is, e)
		}
	}
	if left, made, e := supply.Do(1, nil, []int{40}, odd); !slices.Equal(left, []int{40}) || made != 0 || e != api.OK {
		t.Errorf("one place: %v, %d, %d", left, made, e)
	}
}

// P8.3: Far are the distances in all graphs of up to five places, and in others of six.
func TestFar(t *testing.T) {
	list := append(upTo(5), trees(6)...)
	for _, g := range append(list, someGraphs(rand.New(rand.NewSource(83)), 6, 500)...) {
		for from := range g.n {
			if got, e := supply.Far(g.n, g.edges, from); !slices.Equal(got, g.far(from)) || e != api.OK {
				t.Errorf("Far(%v, %d) = %v, %d", g, from, got, e)
			}
		}
	}
	if far, e := supply.Far(6, way(6).edges, 0); !slices.Equal(far, []int{0, 1, 2, 3, 4, 5}) || e != api.OK {
		t.Errorf("a way of six: %v, %d", far, e)
	}
}
