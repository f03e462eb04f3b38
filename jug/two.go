package jug

import "careen/api"

const mostOfTwo = 1000 // the greatest size of a jug for Two and TwoWay

// Two returns the least number of steps from two empty jugs to the amount in one of them, and whether there is one.
func Two(a, b, amount int) (int, bool, api.Errno) {
	if e := checkTwo(a, b, amount); e != api.OK {
		return 0, false, e
	}
	// All fillings that can be reached lie on one ring (but for both jugs full), and the two ways go round it from its empty jugs in both directions.
	one, ok := ring(a, b, amount, true)
	if !ok {
		return 0, false, api.OK
	}
	other, _ := ring(a, b, amount, false)
	return min(len(one), len(other)), true, api.OK
}

// TwoWay returns the way to the amount that always pours the first jug (or, without first, the second one) into the other one, and whether the amount can be measured.
func TwoWay(a, b, amount int, first bool) ([][2]int, bool, api.Errno) {
	if e := checkTwo(a, b, amount); e != api.OK {
		return nil, false, e
	}
	way, ok := ring(a, b, amount, first)
	return way, ok, api.OK
}

func checkTwo(a, b, amount int) api.Errno {
	if min(a, b) < 1 || max(a, b) > mostOfTwo || amount < 0 || amount > max(a, b) {
		return api.ErrArg
	}
	return api.OK
}

// ring goes from empty jugs until one has the amount, or until both are empty again.
func ring(a, b, amount int, first bool) ([][2]int, bool) {
	j := jugsOf(a, b)
	from, to := 0, 1
	if !first {
		from, to = 1, 0
	}
	var now filling
	var way [][2]int
	for !j.holds(now, amount) {
		var step [2]int
		switch {
		case now[to] == j.sizes[to]:
			step = [2]int{to, sea}
		case now[from] == 0:
			step = [2]int{sea, from}
		default:
			step = [2]int{from, to}
		}
		now = j.after(now, step)
		way = append(way, step)
		if now == (filling{}) {
			return nil, false
		}
	}
	return way, true
}
