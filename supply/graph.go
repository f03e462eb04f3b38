package supply

import (
	"iter"
	"slices"

	"careen/api"
)

// Far returns the distances of all places from a place.
func Far(n int, edges [][2]int, from int) ([]int, api.Errno) {
	g, e := graphWith(n, edges, from)
	if e != api.OK {
		return nil, e
	}
	return g.far[from].list(n), api.OK
}

// move is a pair of places, from and to.
type move = [2]int

// graph is a number of places, and how far each is from each: as far as mostPlaces where no way leads.
type graph struct {
	places int
	far    [mostPlaces]amounts
}

// graphWith is the graph of the edges, with the first error of these and of a place.
func graphWith(n int, edges [][2]int, place int) (graph, api.Errno) {
	g, e := graphOf(n, edges)
	if e == api.OK && !g.has(place) {
		return graph{}, api.ErrArg
	}
	return g, e
}

func graphOf(n int, edges [][2]int) (graph, api.Errno) {
	if !arePlaces(n) {
		return graph{}, api.ErrArg
	}
	g := graph{places: n}
	for place := range g.far {
		for other := range g.far {
			if other != place {
				g.far[place][other] = mostPlaces
			}
		}
	}
	for k, edge := range edges {
		i, j := edge[0], edge[1]
		if i < 0 || i >= j || j >= n || k > 0 && slices.Compare(edges[k-1][:], edge[:]) >= 0 {
			return graph{}, api.ErrGraph
		}
		g.far[i][j], g.far[j][i] = 1, 1
	}
	g.shorten()
	if slices.Max(g.far[0][:n]) == mostPlaces {
		return graph{}, api.ErrGraph
	}
	return g, api.OK
}

// shorten makes lengths of edges the lengths of shortest ways, by way of one place after the other.
func (g *graph) shorten() {
	for over := range g.places {
		for i := range g.places {
			for j := range g.places {
				g.far[i][j] = min(g.far[i][j], g.far[i][over]+g.far[over][j])
			}
		}
	}
}

func (g graph) has(places ...int) bool {
	for _, place := range places {
		if place < 0 || place >= g.places {
			return false
		}
	}
	return true
}

// areBeside returns whether an edge joins two places.
func (g graph) areBeside(i, j int) bool {
	return g.has(i, j) && g.far[i][j] == 1
}

func (g graph) canMake(have amounts, m move) bool {
	return g.areBeside(m[0], m[1]) && have[m[0]] >= 2
}

// moves yields the moves that can be made, rising.
func (g graph) moves(have amounts) iter.Seq[move] {
	return func(yield func(move) bool) {
		for from := range g.places {
			for to := range g.places {
				if m := (move{from, to}); g.canMake(have, m) && !yield(m) {
					return
				}
			}
		}
	}
}

// do makes the moves as long as they can be made, and is what is left then, and how many were made.
func (g graph) do(have amounts, moves []move) (amounts, int) {
	for made, m := range moves {
		if !g.canMake(have, m) {
			return have, made
		}
		have = have.after(m)
	}
	return have, len(moves)
}
