// Package tide is layer 1: sets of hours that repeat themselves from some hour on (see shared/doc/01-tide.md).
package tide

import (
	"slices"

	"careen/api"
)

// Tide is a set of hours: those that First marks with 1, and behind it those that Round marks, again and again.
type Tide struct {
	First, Round string
}

const (
	mostMarks = 60            // characters of First, and of Round
	lastHour  = 1_000_000_000 // the greatest hour that may be asked for
	mostNth   = 1_000_000     // the greatest number that Nth takes
	mostLater = 60            // the hours by which Later moves a tide at most
	mostSlope = 60            // the greatest q of a slope
)

// Check returns ErrTide if t is not a tide.
func Check(t Tide) api.Errno {
	return check(t)
}

// Has returns whether the hour is in the tide.
func Has(t Tide, hour int) (bool, api.Errno) {
	if e := checkAt(t, hour); e != api.OK {
		return false, e
	}
	return has(t, hour), api.OK
}

// Form returns the one tide with the same hours that has the shortest Round and then the shortest First.
func Form(t Tide) (Tide, api.Errno) {
	if e := check(t); e != api.OK {
		return Tide{}, e
	}
	return form(t), api.OK
}

// Same returns 0 and true if both tides have the same hours, otherwise the first hour that is in just one of them.
func Same(a, b Tide) (int, bool, api.Errno) {
	if e := check(a, b); e != api.OK {
		return 0, false, e
	}
	if form(a) == form(b) {
		return 0, true, api.OK
	}
	first, round := span(a, b)
	differ := joined(a, b, first+round, func(inA, inB bool) bool { return inA != inB })
	return slices.Index(differ, true), false, api.OK
}

func check(tides ...Tide) api.Errno {
	for _, t := range tides {
		if len(t.Round) == 0 || !areMarks(t.First) || !areMarks(t.Round) {
			return api.ErrTide
		}
	}
	return api.OK
}

func checkAt(t Tide, hour int) api.Errno {
	if e := check(t); e != api.OK {
		return e
	}
	if hour < 0 || hour > lastHour {
		return api.ErrArg
	}
	return api.OK
}

func areMarks(text string) bool {
	// Each mark is one byte, so the length in bytes is that in characters wherever it matters.
	if len(text) > mostMarks {
		return false
	}
	for _, c := range text {
		if c != '0' && c != '1' {
			return false
		}
	}
	return true
}

func has(t Tide, hour int) bool {
	if hour < len(t.First) {
		return t.First[hour] == '1'
	}
	return t.Round[(hour-len(t.First))%len(t.Round)] == '1'
}

// count is the number of hours that the text marks.
func count(text string) int {
	n := 0
	for _, c := range text {
		if c == '1' {
			n++
		}
	}
	return n
}

func mark(in bool) byte {
	if in {
		return '1'
	}
	return '0'
}

// told are the marks of the hours before end.
func told(t Tide, end int) []byte {
	marks := make([]byte, end)
	for hour := range marks {
		marks[hour] = mark(has(t, hour))
	}
	return marks
}

func form(t Tide) Tide {
	return formOf(told(t, len(t.First)+len(t.Round)), len(t.First))
}

// formOf is the form of the tide that has the marks for its first hours, and from the hour first on repeats what is marked there.
func formOf(marks []byte, first int) Tide {
	round := shortest(marks[first:])
	// Where the mark before the round is the one a round later, the round can begin an hour earlier.
	for first > 0 && marks[first-1] == marks[first-1+round] {
		first--
	}
	end := first + round
	return Tide{First: string(marks[:first:first]), Round: string(marks[first:end:end])}
}

// shortest is the length of the shortest list that gives the round by repeating it.
func shortest(round []byte) int {
	for n := 1; n < len(round); n++ {
		if len(round)%n == 0 && slices.Equal(round[n:], round[:len(round)-n]) {
			return n
		}
	}
	return len(round)
}
