package tide

import (
	"bytes"

	"careen/api"
)

// Both returns the form of the tide of the hours that are in both tides.
func Both(a, b Tide) (Tide, api.Errno) {
	return combined(a, b, func(inA, inB bool) byte { return mark(inA && inB) })
}

// Either returns the form of the tide of the hours that are in one of the tides at least.
func Either(a, b Tide) (Tide, api.Errno) {
	return combined(a, b, func(inA, inB bool) byte { return mark(inA || inB) })
}

// Not returns the form of the tide of the hours that are not in a.
func Not(a Tide) (Tide, api.Errno) {
	return combined(a, a, func(in, _ bool) byte { return mark(!in) })
}

// Later returns the form of the tide of all hours of a, each later by so many hours.
func Later(a Tide, hours int) (Tide, api.Errno) {
	if e := check(a); e != api.OK {
		return Tide{}, e
	}
	if hours < 0 || hours > mostLater {
		return Tide{}, api.ErrArg
	}
	marks := bytes.Repeat([]byte{'0'}, hours)
	marks = append(marks, told(a, len(a.First)+len(a.Round))...)
	return fitting(formOf(marks, hours+len(a.First)))
}

// Sum returns the form of the tide of all sums of an hour of a and an hour of b.
func Sum(a, b Tide) (Tide, api.Errno) {
	if e := check(a, b); e != api.OK {
		return Tide{}, e
	}
	// In a sum of at least both Firsts and two common rounds, one of the hours is a common round or more behind its First, so that a round can be taken off it; and one can always be added to it. So sums repeat themselves from both Firsts and one common round on.
	_, round := span(a, b)
	first := len(a.First) + len(b.First) + round
	return fitting(formOf(sums(a, b, first+round), first))
}

// sums are the marks of the hours before end that are sums of an hour of a and an hour of b.
func sums(a, b Tide, end int) []byte {
	once := told(b, end)
	again := repeated(once, len(a.Round))
	marks := bytes.Repeat([]byte{'0'}, end)
	for hour := range hours(a, 0) {
		if hour >= len(a.First)+len(a.Round) {
			break
		}
		// An hour of the Round stands for all its repetitions.
		added := once
		if hour >= len(a.First) {
			added = again
		}
		for i, c := range added[:end-hour] {
			if c == '1' {
				marks[hour+i] = '1'
			}
		}
	}
	return marks
}

// repeated marks all marked hours, and those that are any number of rounds later.
func repeated(marks []byte, round int) []byte {
	again := bytes.Clone(marks)
	for i := round; i < len(again); i++ {
		if again[i-round] == '1' {
			again[i] = '1'
		}
	}
	return again
}

func combined(a, b Tide, join func(inA, inB bool) byte) (Tide, api.Errno) {
	if e := check(a, b); e != api.OK {
		return Tide{}, e
	}
	first, round := span(a, b)
	return fitting(formOf(joined(a, b, first+round, join), first))
}

// joined lists what join makes of each hour before end.
func joined[T any](a, b Tide, end int, join func(inA, inB bool) T) []T {
	list := make([]T, end)
	for hour := range list {
		list[hour] = join(has(a, hour), has(b, hour))
	}
	return list
}

// span is the hour from which on all tides repeat themselves, and the length of a round that they have in common.
func span(tides ...Tide) (first, round int) {
	round = 1
	for _, t := range tides {
		first = max(first, len(t.First))
		round = round / divisor(round, len(t.Round)) * len(t.Round)
	}
	return first, round
}

// divisor is the greatest number that divides both.
func divisor(a, b int) int {
	for b != 0 {
		a, b = b, a%b
	}
	return a
}

func fitting(t Tide) (Tide, api.Errno) {
	if len(t.First) > mostMarks || len(t.Round) > mostMarks {
		return Tide{}, api.ErrLarge
	}
	return t, api.OK
}
