package flag

import "careen/api"

const mostStream = 1000

// Reads returns all places at which a code reads a stream, rising.
func Reads(k, n int, code []string, stream string) ([]int, api.Errno) {
	if e := Check(k, n, code); e != api.OK {
		return nil, e
	}
	if len(stream) > mostStream || !areLetters(k, stream) {
		return nil, api.ErrArg
	}
	known := setOf(code...)
	var starts []int
	for i := range min(n, len(stream)) {
		if areKnown(piecesOf(stream[i:], n), known) {
			starts = append(starts, i)
		}
	}
	return starts, api.OK
}

// Cut returns the pieces of a stream from the only place at which a code reads it, and true, or false if there is not just one.
func Cut(k, n int, code []string, stream string) ([]string, bool, api.Errno) {
	starts, e := Reads(k, n, code, stream)
	if e != api.OK || len(starts) != 1 {
		return nil, false, e
	}
	return piecesOf(stream[starts[0]:], n), true, api.OK
}

func setOf(words ...string) map[string]bool {
	set := map[string]bool{}
	for _, word := range words {
		set[word] = true
	}
	return set
}

// piecesOf cuts a stream into pieces of n letters; what is left at the end is left out.
func piecesOf(stream string, n int) []string {
	var pieces []string
	for ; len(stream) >= n; stream = stream[n:] {
		pieces = append(pieces, stream[:n])
	}
	return pieces
}

// areKnown tells whether there are pieces, and all of them are known.
func areKnown(pieces []string, known map[string]bool) bool {
	for _, piece := range pieces {
		if !known[piece] {
			return false
		}
	}
	return len(pieces) > 0
}
