package flag

import (
	"iter"
	"slices"

	"careen/api"
)

// The limits of CountRings, which goes beyond words that can be listed.
const (
	mostCountedFlags  = 9
	mostCountedLength = 60
	mostCountedWords  = 1_000_000_000_000_000_000
)

// Rings returns the first words of all rings over k flags with the length n, rising.
func Rings(k, n int) ([]string, api.Errno) {
	s := shape{k, n}
	if e := s.check(); e != api.OK {
		return nil, e
	}
	return slices.Collect(s.rings()), api.OK
}

// CountRings returns the number of rings over k flags with the length n.
func CountRings(k, n int) (int64, api.Errno) {
	if k < 1 || k > mostCountedFlags || n < 1 || n > mostCountedLength || power(k, n) > mostCountedWords {
		return 0, api.ErrArg
	}
	return countRings(k, n), api.OK
}

// countRings takes from all words those that are not whole. Such a word is a whole one of a length d that divides n, again and again, and there are d of these for each ring of theirs.
func countRings(k, n int) int64 {
	words := power(k, n)
	for d := 1; d < n; d++ {
		if n%d == 0 {
			words -= int64(d) * countRings(k, d)
		}
	}
	return words / int64(n)
}

// power is k^n for a k of at most 9, or any number above mostCountedWords if k^n is above it.
func power(k, n int) int64 {
	result := int64(1)
	for range n {
		if result > mostCountedWords {
			break
		}
		result *= int64(k)
	}
	return result
}

// words are all words of the shape, rising.
func (s shape) words() iter.Seq[string] {
	return func(yield func(string) bool) {
		for number := range int(power(s.flags, s.length)) {
			if !yield(s.word(number)) {
				return
			}
		}
	}
}

// word is the one whose letters are the digits of a number.
func (s shape) word(number int) string {
	letters := make([]byte, s.length)
	for i := range letters {
		letters[s.length-1-i] = 'a' + byte(number%s.flags)
		number /= s.flags
	}
	return joined(letters)
}

// rings are the first words of all rings of the shape, rising.
func (s shape) rings() iter.Seq[string] {
	return func(yield func(string) bool) {
		for word := range s.words() {
			if isFirst(word) && !yield(word) {
				return
			}
		}
	}
}

// isFirst tells whether a word is the first one of a ring.
func isFirst(word string) bool {
	return isWhole(word) && turnsOf(word)[0] == word
}
