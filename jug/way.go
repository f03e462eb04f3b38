package jug

import (
	"iter"
	"slices"

	"careen/api"
)

// Way returns a way with as few steps as possible from one filling to another one, and whether there is one.
func Way(sizes, from, to []int, closed bool) ([][2]int, bool, api.Errno) {
	if e := checkAll(sizes, from, to); e != api.OK {
		return nil, false, e
	}
	j, goal := jugsOf(sizes...), fillingOf(to)
	way, ok := search(fillingOf(from), j.steps(closed), j.after, func(f filling) bool { return f == goal }).way()
	return way, ok, api.OK
}

// Reached returns the number of fillings to which a way leads from a filling, itself included.
func Reached(sizes, filling []int, closed bool) (int, api.Errno) {
	if e := checkAll(sizes, filling); e != api.OK {
		return 0, e
	}
	return len(reached(sizes, filling, closed)), api.OK
}

// Farthest returns the greatest number of steps that a shortest way to one of the fillings needs.
func Farthest(sizes, filling []int, closed bool) (int, api.Errno) {
	if e := checkAll(sizes, filling); e != api.OK {
		return 0, e
	}
	most := 0
	for _, c := range reached(sizes, filling, closed) {
		most = max(most, c.steps)
	}
	return most, api.OK
}

// Measure returns a way with as few steps as possible from empty jugs to the amount in one of them, and whether there is one.
func Measure(sizes []int, amount int) ([][2]int, bool, api.Errno) {
	if e := checkAmount(sizes, amount); e != api.OK {
		return nil, false, e
	}
	way, ok := measure(sizes, amount)
	return way, ok, api.OK
}

// Amounts returns the amounts that can be measured, rising.
func Amounts(sizes []int) ([]int, api.Errno) {
	if e := check(sizes...); e != api.OK {
		return nil, e
	}
	var in [mostSize + 1]bool
	for f := range reached(sizes, nil, false) {
		for _, amount := range f[:len(sizes)] {
			in[amount] = true
		}
	}
	var list []int
	for amount, is := range in {
		if is {
			list = append(list, amount)
		}
	}
	return list, api.OK
}

// Fewest returns the number of steps of what Measure returns.
func Fewest(sizes []int, amount int) (int, bool, api.Errno) {
	if e := checkAmount(sizes, amount); e != api.OK {
		return 0, false, e
	}
	way, ok := measure(sizes, amount)
	return len(way), ok, api.OK
}

// Back returns whether a way leads from the second filling to the first one; one must lead there from the first.
func Back(sizes, from, to []int) (bool, api.Errno) {
	if e := checkAll(sizes, from, to); e != api.OK {
		return false, e
	}
	if !leads(sizes, from, to) {
		return false, api.ErrArg
	}
	return leads(sizes, to, from), api.OK
}

func checkAmount(sizes []int, amount int) api.Errno {
	if e := check(sizes...); e != api.OK {
		return e
	}
	if amount < 0 || amount > mostSize {
		return api.ErrArg
	}
	return api.OK
}

func measure(sizes []int, amount int) ([][2]int, bool) {
	j := jugsOf(sizes...)
	return search(filling{}, j.steps(false), j.after, func(f filling) bool { return j.holds(f, amount) }).way()
}

func leads(sizes, from, to []int) bool {
	_, is := reached(sizes, from, false)[fillingOf(to)]
	return is
}

// reached are all fillings to which a way leads from the amounts.
func reached(sizes, amounts []int, closed bool) map[filling]coming {
	j := jugsOf(sizes...)
	return search(fillingOf(amounts), j.steps(closed), j.after, func(filling) bool { return false }).seen
}

// coming tells how a search came to a filling: by the last of so many steps, from which filling.
type coming struct {
	from  filling
	step  [2]int
	steps int
}

// found is what a search came to, and the goal that ended it, if there was one.
type found struct {
	seen map[filling]coming
	goal filling
	ok   bool
}

// search goes to the fillings in rising order of the steps that they need, until one is a goal.
func search(start filling, steps iter.Seq[[2]int], do func(filling, [2]int) filling, isGoal func(filling) bool) found {
	seen := map[filling]coming{start: {}}
	if isGoal(start) {
		return found{seen: seen, goal: start, ok: true}
	}
	result := found{seen: seen}
	queue := []filling{start}
outwards:
	for len(queue) > 0 {
		here := queue[0]
		queue = queue[1:]
		count := seen[here].steps + 1
		for step := range steps {
			next := do(here, step)
			if _, known := seen[next]; known {
				continue
			}
			seen[next] = coming{from: here, step: step, steps: count}
			if isGoal(next) {
				result.goal, result.ok = next, true
				break outwards
			}
			queue = append(queue, next)
		}
	}
	return result
}

// way lists the steps that led to the goal.
func (r found) way() ([][2]int, bool) {
	if !r.ok {
		return nil, false
	}
	backwards := func(yield func([2]int) bool) {
		for at := r.seen[r.goal]; at.steps > 0 && yield(at.step); at = r.seen[at.from] {
		}
	}
	way := slices.Collect(backwards)
	slices.Reverse(way)
	return way, true
}
