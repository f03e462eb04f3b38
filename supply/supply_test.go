package supply_test

import (
	"iter"
	"math"
	"math/rand"
	"slices"
	"testing"

	"careen/api"
	"careen/supply"
)

const most = 40

type move = [2]int

type graph struct {
	n     int
	edges []move
}

// state is how much there is at each place, 0 beyond the graph.
type state [6]int

func stateOf(supplies []int) state {
	var s state
	copy(s[:], supplies)
	return s
}

func (s state) list(n int) []int { return slices.Clone(s[:n]) }

func (g graph) joins(i, j int) bool {
	return slices.Contains(g.edges, move{min(i, j), max(i, j)}) && i != j
}

// far are the distances from a place, -1 where no way leads.
func (g graph) far(from int) []int {
	far := slices.Repeat([]int{-1}, g.n)
	far[from] = 0
	queue := []int{from}
	for len(queue) > 0 {
		i := queue[0]
		queue = queue[1:]
		for j := range g.n {
			if g.joins(i, j) && far[j] < 0 {
				far[j] = far[i] + 1
				queue = append(queue, j)
			}
		}
	}
	return far
}

// all lists the edges that there can be, in the order of lists.
func all(n int) []move {
	var list []move
	for i := range n {
		for j := i + 1; j < n; j++ {
			list = append(list, move{i, j})
		}
	}
	return list
}

// sets are n places with each set of edges, whether they are connected or not.
func sets(n int) []graph {
	var list []graph
	edges := all(n)
	for set := range 1 << len(edges) {
		g := graph{n: n}
		for k, edge := range edges {
			if set>>k&1 == 1 {
				g.edges = append(g.edges, edge)
			}
		}
		list = append(list, g)
	}
	return list
}

func (g graph) isConnected() bool { return !slices.Contains(g.far(0), -1) }

// graphs are all those of n places with at most so many edges.
func graphs(n, mostEdges int) []graph {
	return slices.DeleteFunc(sets(n), func(g graph) bool { return len(g.edges) > mostEdges || !g.isConnected() })
}

func upTo(n int) []graph {
	var list []graph
	for i := 1; i <= n; i++ {
		list = append(list, graphs(i, 15)...)
	}
	return list
}

func trees(n int) []graph { return graphs(n, n-1) }

func way(n int) graph {
	g := graph{n: n}
	for i := range n - 1 {
		g.edges = append(g.edges, move{i, i + 1})
	}
	return g
}

func ring(n int) graph {
	g := way(n)
	if n > 2 {
		g.edges = slices.Insert(g.edges, 1, move{0, n - 1})
	}
	return g
}

func star(n int) graph {
	g := graph{n: n}
	for i := 1; i < n; i++ {
		g.edges = append(g.edges, move{0, i})
	}
	return g
}

// someGraphs are random ones, and of n places.
func someGraphs(r *rand.Rand, n, count int) []graph {
	list := []graph{way(n), ring(n), star(n), {n, all(n)}}
	for len(list) < count {
		g := graph{n: n}
		odds := r.Float64()
		for _, edge := range all(n) {
			if r.Float64() < odds {
				g.edges = append(g.edges, edge)
			}
		}
		if g.isConnected() {
			list = append(list, g)
		}
	}
	return list
}

// sums lists all lists of n integers, at least 0, with a sum.
func sums(n, sum int) [][]int {
	if n == 1 {
		return [][]int{{sum}}
	}
	var list [][]int
	for last := range sum + 1 {
		for _, rest := range sums(n-1, sum-last) {
			list = append(list, append(rest, last))
		}
	}
	return list
}

// someSupplies are random ones with a sum, in few places or in many.
func someSupplies(r *rand.Rand, n, sum int) []int {
	places := r.Perm(n)[:1+r.Intn(n)]
	list := make([]int, n)
	for range sum {
		list[places[r.Intn(len(places))]]++
	}
	return list
}

// after is what a move makes of supplies, if it can be made.
func (g graph) after(s state, m move) (state, bool) {
	if !g.joins(m[0], m[1]) || s[m[0]] < 2 {
		return s, false
	}
	return s.after(m), true
}

func (s state) after(m move) state {
	s[m[0]] -= 2
	s[m[1]]++
	return s
}

// reached yields all that some moves make of supplies, themselves included.
func (g graph) reached(supplies []int) iter.Seq[state] {
	return func(yield func(state) bool) {
		first := stateOf(supplies)
		seen := map[state]bool{first: true}
		open := []state{first}
		for len(open) > 0 {
			s := open[len(open)-1]
			open = open[:len(open)-1]
			if !yield(s) {
				return
			}
			for _, edge := range g.edges {
				for _, m := range []move{edge, {edge[1], edge[0]}} {
					if next := s.after(m); next[m[0]] >= 0 && !seen[next] {
						seen[next] = true
						open = append(open, next)
					}
				}
			}
		}
	}
}

// mostAt are the greatest numbers of supplies that there can be at each place.
func (g graph) mostAt(supplies []int) state {
	var greatest state
	for s := range g.reached(supplies) {
		for place, amount := range s {
			greatest[place] = max(greatest[place], amount)
		}
	}
	return greatest
}

func (g graph) covers(supplies []int) bool {
	for s := range g.reached(supplies) {
		if !slices.Contains(s[:g.n], 0) {
			return true
		}
	}
	return false
}

func total(list []int) int {
	sum := 0
	for _, x := range list {
		sum += x
	}
	return sum
}

// outcome is whether the results of a call are zero values, and its error.
type outcome struct {
	zero bool
	e    api.Errno
}

func value[T comparable](x T, e api.Errno) outcome { var zero T; return outcome{x == zero, e} }
func many[T any](l []T, e api.Errno) outcome       { return outcome{len(l) == 0, e} }
func both[T any, U comparable](l []T, x U, e api.Errno) outcome {
	var zero U
	return outcome{len(l) == 0 && x == zero, e}
}

// graphCalls are the functions that take a graph.
func graphCalls(n int, edges []move) map[string]outcome {
	return map[string]outcome{
		"Check":       {true, supply.Check(n, edges)},
		"CoverNumber": value(supply.CoverNumber(n, edges)),
	}
}

// placeCalls are those that take a place, too.
func placeCalls(n int, edges []move, place int) map[string]outcome {
	return map[string]outcome{
		"Number":     value(supply.Number(n, edges, place)),
		"Poor":       many(supply.Poor(n, edges, place)),
		"Far":        many(supply.Far(n, edges, place)),
		"Parts":      many(supply.Parts(n, edges, place)),
		"TreeNumber": value(supply.TreeNumber(n, edges, place)),
	}
}

// supplyCalls are those that take supplies, too.
func supplyCalls(n int, edges []move, supplies []int) map[string]outcome {
	return map[string]outcome{
		"Moves":  many(supply.Moves(n, edges, supplies)),
		"Do":     both(supply.Do(n, edges, supplies, edges)),
		"Covers": value(supply.Covers(n, edges, supplies)),
	}
}

// goalCalls are those that take supplies and a place, too.
func goalCalls(n int, edges []move, supplies []int, goal int) map[string]outcome {
	return map[string]outcome{
		"Plan":   both(supply.Plan(n, edges, supplies, goal)),
		"IsPlan": value(supply.IsPlan(n, edges, supplies, goal, nil)),
		"Most":   value(supply.Most(n, edges, supplies, goal)),
	}
}

func fails(t *testing.T, e api.Errno, calls map[string]outcome, of ...any) {
	t.Helper()
	for name, got := range calls {
		if (got != outcome{true, e}) {
			t.Errorf("%s of %v: %v, not %d", name, of, got, e)
		}
	}
}

var (
	wrongCounts   = []int{0, -1, 7, 8, 1 << 32, 1<<32 + 3, -1 << 32, math.MaxInt, math.MinInt}
	wrongGraphs   = [][]move{nil, {{0, 1}}, {{0, 1}, {0, 1}, {1, 2}}, {{1, 2}, {0, 1}}, {{0, 2}, {0, 1}}, {{0, 1}, {2, 1}}, {{1, 0}, {1, 2}}, {{0, 0}, {0, 1}, {1, 2}}, {{0, 1}, {1, 2}, {2, 2}}, {{0, 1}, {1, 2}, {2, 3}}, {{0, 1}, {1, 2}, {1, math.MaxInt}}, {{-1, 0}, {0, 1}, {1, 2}}, {{math.MinInt, 2}, {0, 1}, {1, 2}}, {{0, 1}, {1, 1<<32 + 2}}}
	wrongSupplies = [][]int{nil, {}, {1, 2}, {1, 2, 3, 4}, {-1, 1, 1}, {0, 0, -1}, {41, 0, 0}, {0, 20, 21}, {40, 40, 40}, {41, -1, 0}, {math.MaxInt, math.MaxInt, 2}, {math.MinInt, math.MinInt, 0}, {math.MaxInt, math.MinInt, 1}, {1 << 62, 1 << 62, 1 << 62}, {1 << 32, 0, 0}}
	wrongPlaces   = []int{-1, 3, 4, 6, 7, 1 << 32, 1<<32 + 1, math.MaxInt, math.MinInt}
)

// P8.1: ErrArg for a number of places that is not from 1 to 6, whatever else is wrong, with zero values beside it.
func TestWrongCounts(t *testing.T) {
	for _, n := range wrongCounts {
		for _, edges := range [][]move{nil, {{0, 1}}, way(6).edges, {{1, 0}}} {
			fails(t, api.ErrArg, graphCalls(n, edges), n, edges)
			for _, place := range []int{0, -1, 7} {
				fails(t, api.ErrArg, placeCalls(n, edges, place), n, edges, place)
				for _, supplies := range append(wrongSupplies, []int{3}, []int{1, 2, 3, 4, 5, 6, 7}) {
					fails(t, api.ErrArg, supplyCalls(n, edges, supplies), n, edges, supplies)
					fails(t, api.ErrArg, goalCalls(n, edges, supplies, place), n, edges, supplies, place)
					if e := supply.CheckSupplies(n, supplies); e != api.ErrArg {
						t.Errorf("CheckSupplies(%d, %v) = %d", n, supplies, e)
					}
				}
			}
		}
	}
}

// P8.1: then ErrGraph for edges that are not those of a graph.
func TestWrongGraphs(t *testing.T) {
	for _, edges := range wrongGraphs {
		fails(t, api.ErrGraph, graphCalls(3, edges), edges)
		for _, place := range []int{0, -1, 3} {
			fails(t, api.ErrGraph, placeCalls(3, edges, place), edges, place)
			for _, supplies := range append(wrongSupplies, []int{1, 2, 3}) {
				fails(t, api.ErrGraph, supplyCalls(3, edges, supplies), edges, supplies)
				fails(t, api.ErrGraph, goalCalls(3, edges, supplies, place), edges, supplies, place)
			}
		}
	}
}

// P8.1: then ErrSupply for what is not supplies for n places, and after it ErrArg for a place.
func TestWrongSuppliesAndPlaces(t *testing.T) {
	for _, edges := range [][]move{way(3).edges, all(3)} {
		for _, supplies := range wrongSupplies {
			fails(t, api.ErrSupply, supplyCalls(3, edges, supplies), supplies)
			if e := supply.CheckSupplies(3, supplies); e != api.ErrSupply {
				t.Errorf("CheckSupplies(3, %v) = %d", supplies, e)
			}
			for _, place := range append(wrongPlaces, 0, 2) {
				fails(t, api.ErrSupply, goalCalls(3, edges, supplies, place), supplies, place)
			}
		}
		for _, place := range wrongPlaces {
			fails(t, api.ErrArg, placeCalls(3, edges, place), edges, place)
			fails(t, api.ErrArg, goalCalls(3, edges, []int{9, 9, 9}, place), edges, place)
		}
	}
	for n := range 7 {
		for length := range 9 {
			want := api.OK
			if n == 0 {
				want = api.ErrArg
			} else if n != length {
				want = api.ErrSupply
			}
			if e := supply.CheckSupplies(n, make([]int, length)); e != want {
				t.Errorf("CheckSupplies of %d for %d places: %d", length, n, e)
			}
		}
	}
}

// P8.1: Check of all lists of up to three edges, in any order, wrong edges among them.
func TestCheck(t *testing.T) {
	var edges []move
	for i := -1; i <= 3; i++ {
		for j := -1; j <= 3; j++ {
			edges = append(edges, move{i, j})
		}
	}
	lists := [][]move{nil}
	for range 3 {
		for _, list := range lists {
			for _, edge := range edges {
				lists = append(lists, append(slices.Clone(list), edge))
			}
		}
	}
	var right int
	for n := 1; n <= 3; n++ {
		valid := all(n)
		for _, list := range lists {
			want := api.OK
			rising := slices.IsSortedFunc(list, func(x, y move) int { return slices.Compare(x[:], y[:]) }) && len(slices.Compact(slices.Clone(list))) == len(list)
			ours := !slices.ContainsFunc(list, func(edge move) bool { return !slices.Contains(valid, edge) })
			if !rising || !ours || !(graph{n, list}).isConnected() {
				want = api.ErrGraph
			} else {
				right++
			}
			if e := supply.Check(n, list); e != want {
				t.Fatalf("Check(%d, %v) = %d, not %d", n, list, e, want)
			}
		}
	}
	if right < 6 {
		t.Errorf("%d graphs", right)
	}
}

// P8.1: Check of all sets of edges of up to six places.
func TestCheckConnected(t *testing.T) {
	for n := 1; n <= 6; n++ {
		for _, g := range sets(n) {
			want := api.OK
			if !g.isConnected() {
				want = api.ErrGraph
			}
			if e := supply.Check(n, g.edges); e != want {
				t.Errorf("Check(%v) = %d", g, e)
			}
		}
	}
}

// P8.1: supplies at the limits.
func TestCheckSupplies(t *testing.T) {
	for _, supplies := range [][]int{{0}, {40}, {0, 0}, {40, 0}, {0, 40}, {20, 20}, {0, 0, 0, 0, 0, 0}, {0, 0, 0, 0, 0, 40}, {7, 7, 7, 7, 6, 6}} {
		if e := supply.CheckSupplies(len(supplies), supplies); e != api.OK {
			t.Errorf("CheckSupplies(%v) = %d", supplies, e)
		}
		for place := range supplies {
			for _, more := range []int{most + 1, -1} {
				wrong := slices.Clone(supplies)
				wrong[place] = more
				if e := supply.CheckSupplies(len(wrong), wrong); e != api.ErrSupply {
					t.Errorf("CheckSupplies(%v) = %d", wrong, e)
				}
			}
			if total(supplies) == most {
				wrong := slices.Clone(supplies)
				wrong[place]++
				if e := supply.CheckSupplies(len(wrong), wrong); e != api.ErrSupply {
					t.Errorf("CheckSupplies(%v) = %d", wrong, e)
				}
			}
		}
	}
}

// Examples 1 to 3 of the chapter.
func TestExamples(t *testing.T) {
	w := way(3)
	number, e := supply.Number(3, w.edges, 0)
	poor, f := supply.Poor(3, w.edges, 0)
	if number != 4 || !slices.Equal(poor, []int{0, 0, 3}) || e != api.OK || f != api.OK {
		t.Errorf("example 1: %d, %v, %d, %d", number, poor, e, f)
	}
	plan, is, e := supply.Plan(3, w.edges, []int{0, 0, 4}, 0)
	if !slices.Equal(plan, []move{{2, 1}, {2, 1}, {1, 0}}) || !is || e != api.OK {
		t.Errorf("example 1: %v, %t, %d", plan, is, e)
	}
	if number, e := supply.Number(5, ring(5).edges, 3); number != 5 || e != api.OK {
		t.Errorf("example 2: %d, %d", number, e)
	}
	parts, e := supply.Parts(4, star(4).edges, 1)
	number, f = supply.TreeNumber(4, star(4).edges, 1)
	if !slices.Equal(parts, []int{2, 1}) || number != 5 || e != api.OK || f != api.OK {
		t.Errorf("example 2: %v, %d, %d, %d", parts, number, e, f)
	}
	if number, e := supply.CoverNumber(3, w.edges); number != 7 || e != api.OK {
		t.Errorf("example 3: %d, %d", number, e)
	}
}

// R4: arguments are neither changed nor kept, nor is what lies beyond their lengths read or written.
func TestArguments(t *testing.T) {
	edges, supplies := []move{{0, 1}, {1, 2}, {1, 1}}, []int{0, 9, 9, 9, -5}
	moves := []move{{2, 1}, {1, 0}, {0, 2}}
	keptEdges, keptSupplies, keptMoves := slices.Clone(edges), slices.Clone(supplies), slices.Clone(moves)
	g, have, plan := edges[:2], supplies[:3], moves[:2]
	left, made, _ := supply.Do(3, g, have, plan)
	if !slices.Equal(left, []int{1, 8, 7}) || made != 2 {
		t.Errorf("Do: %v, %d", left, made)
	}
	graphCalls(3, g)
	placeCalls(3, g, 0)
	supplyCalls(3, g, have)
	goalCalls(3, g, have, 0)
	if is, e := supply.IsPlan(3, g, have, 0, plan); !is || e != api.OK {
		t.Errorf("IsPlan: %t, %d", is, e)
	}
	if !slices.Equal(edges, keptEdges) || !slices.Equal(supplies, keptSupplies) || !slices.Equal(moves, keptMoves) {
		t.Errorf("changed: %v, %v, %v", edges, supplies, moves)
	}
}

// R4, R7: results are new memory, and the same each time.
func TestResults(t *testing.T) {
	g, supplies, moves := star(6), []int{0, 9, 0, 9, 9, 9}, []move{{1, 0}, {1, 0}}
	for name, call := range map[string]func() ([]int, api.Errno){
		"Do":    func() ([]int, api.Errno) { l, _, e := supply.Do(6, g.edges, supplies, moves); return l, e },
		"Do, 0": func() ([]int, api.Errno) { l, _, e := supply.Do(6, g.edges, supplies, nil); return l, e },
		"Poor":  func() ([]int, api.Errno) { return supply.Poor(6, g.edges, 2) },
		"Far":   func() ([]int, api.Errno) { return supply.Far(6, g.edges, 2) },
		"Parts": func() ([]int, api.Errno) { return supply.Parts(6, g.edges, 2) },
		"Moves": func() ([]int, api.Errno) { l, e := supply.Moves(6, g.edges, supplies); return flat(l), e },
		"Plan":  func() ([]int, api.Errno) { l, _, e := supply.Plan(6, g.edges, supplies, 2); return flat(l), e },
	} {
		first, _ := call()
		want := slices.Clone(first)
		for i := range first {
			first[i] = 77
		}
		_ = append(first, 77)
		for range 3 {
			if got, e := call(); !slices.Equal(got, want) || len(got) == 0 || e != api.OK {
				t.Errorf("%s: %v, %d, not %v", name, got, e, want)
			}
		}
	}
	if !slices.Equal(supplies, []int{0, 9, 0, 9, 9, 9}) {
		t.Errorf("the supplies are %v", supplies)
	}
}

// flat are the places of moves, which are overwritten then.
func flat(moves []move) []int {
	var list []int
	for i, m := range moves {
		list = append(list, m[:]...)
		moves[i] = move{77, 77}
	}
	return list
}
