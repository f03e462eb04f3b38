package tide

import (
	"iter"
	"maps"
	"slices"
	"strings"

	"careen/api"
)

// Wait returns the number of hours until the first hour of the tide that is not less than the given one.
func Wait(t Tide, hour int) (int, api.Errno) {
	if e := checkAt(t, hour); e != api.OK {
		return 0, e
	}
	found, ok := next(t, hour)
	if !ok {
		return 0, api.ErrNone
	}
	return found - hour, api.OK
}

// Count returns the number of hours of the tide that are less than the given one.
func Count(t Tide, hour int) (int, api.Errno) {
	if e := checkAt(t, hour); e != api.OK {
		return 0, e
	}
	if hour <= len(t.First) {
		return count(t.First[:hour]), api.OK
	}
	rest := hour - len(t.First)
	rounds, part := rest/len(t.Round), rest%len(t.Round)
	return count(t.First) + rounds*count(t.Round) + count(t.Round[:part]), api.OK
}

// Nth returns the hour of the tide before which just n others are.
func Nth(t Tide, n int) (int, api.Errno) {
	if e := check(t); e != api.OK {
		return 0, e
	}
	if n < 0 || n > mostNth {
		return 0, api.ErrArg
	}
	early, each := count(t.First), count(t.Round)
	if n < early {
		return nth(t, 0, n), api.OK
	}
	if each == 0 {
		return 0, api.ErrNone
	}
	rounds, rest := (n-early)/each, (n-early)%each
	return nth(t, len(t.First)+rounds*len(t.Round), rest), api.OK
}

// Endless returns whether the tide has endlessly many hours.
func Endless(t Tide) (bool, api.Errno) {
	if e := check(t); e != api.OK {
		return false, e
	}
	return endless(t), api.OK
}

// Longest returns the first hour and the length of the first of the longest windows.
func Longest(t Tide) (from, length int, e api.Errno) {
	if e = check(t); e != api.OK {
		return 0, 0, e
	}
	if !strings.Contains(t.Round, "0") {
		return 0, 0, api.ErrNone
	}
	run := 0
	// A window that begins behind the first round was there a round earlier, and each is shorter than a round from First on.
	for hour := range len(t.First) + 2*len(t.Round) {
		if !has(t, hour) {
			run = 0
			continue
		}
		run++
		if run > length {
			from, length = hour+1-run, run
		}
	}
	if length == 0 {
		return 0, 0, api.ErrNone
	}
	return from, length, api.OK
}

// Worst returns the greatest wait that there is at any hour.
func Worst(t Tide) (int, api.Errno) {
	if e := check(t); e != api.OK {
		return 0, e
	}
	if !endless(t) {
		return 0, api.ErrNone
	}
	worst := 0
	for hour := range len(t.First) + len(t.Round) {
		found, _ := next(t, hour)
		worst = max(worst, found-hour)
	}
	return worst, api.OK
}

// Gaps returns the differences between an hour and the next one that come up endlessly often, rising.
func Gaps(t Tide) ([]int, api.Errno) {
	if e := check(t); e != api.OK {
		return nil, e
	}
	if !endless(t) {
		return nil, api.ErrNone
	}
	seen := map[int]bool{}
	last := -1
	// What comes up in a round, up to the first hour of the next one, comes up endlessly often.
	for hour := range hours(t, len(t.First)) {
		if last >= 0 {
			seen[hour-last] = true
		}
		if hour >= len(t.First)+len(t.Round) {
			break
		}
		last = hour
	}
	return slices.Sorted(maps.Keys(seen)), api.OK
}

func endless(t Tide) bool {
	return strings.Contains(t.Round, "1")
}

// hours are the hours of the tide that are not less than from, rising; of an endless tide they do not end.
func hours(t Tide, from int) iter.Seq[int] {
	return func(yield func(int) bool) {
		for hour, ok := next(t, from); ok && yield(hour); hour, ok = next(t, hour+1) {
		}
	}
}

// next is the first hour of the tide that is not less than from.
func next(t Tide, from int) (int, bool) {
	// Behind First and a whole round without an hour there is none.
	end := max(from, len(t.First)) + len(t.Round)
	found := from
search:
	for ; ; found++ {
		switch {
		case found == end:
			return 0, false
		case has(t, found):
			break search
		}
	}
	return found, true
}

// nth is the hour of the tide, from the hour from on, before which n others are; there must be that many.
func nth(t Tide, from, n int) int {
	for hour := range hours(t, from) {
		if n == 0 {
			return hour
		}
		n--
	}
	return 0
}
