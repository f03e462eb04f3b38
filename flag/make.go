package flag

import (
	"slices"

	"careen/api"
)

// Make returns a comma-free code over k flags of the odd length n with one word of each ring.
func Make(k, n int) ([]string, api.Errno) {
	s := shape{k, n}
	if e := s.check(); e != api.OK {
		return nil, e
	}
	if n%2 == 0 {
		return nil, api.ErrArg
	}
	return s.scholtz(), api.OK
}

// Grow returns a comma-free code that contains a comma-free code, and to which no word can be added.
func Grow(k, n int, code []string) ([]string, api.Errno) {
	s := shape{k, n}
	if e := s.check(code...); e != api.OK {
		return nil, e
	}
	if _, is := clash(code...); is {
		return nil, api.ErrCode
	}
	grown := slices.Clone(code)
	isIn := func(word string) bool { return slices.Contains(grown, word) }
	fits := func(word string) bool {
		_, is := clash(append(slices.Clone(grown), word)...)
		return !is
	}
	// Words that are not whole clash always, and so do two of one ring. A word that does not fit does not do so later, among more words: it is enough to try each one once.
	for first := range s.rings() {
		turns := turnsOf(first)
		if slices.ContainsFunc(turns, isIn) {
			continue
		}
		if i := slices.IndexFunc(turns, fits); i >= 0 {
			grown = append(grown, turns[i])
		}
	}
	slices.Sort(grown)
	return grown, api.OK
}

// Two returns a comma-free code over k flags of the length 2 with as many words as possible.
func Two(k int) ([]string, api.Errno) {
	s := shape{k, 2}
	if e := s.check(); e != api.OK {
		return nil, e
	}
	var code []string
	for word := range s.words() {
		if group(word[0]) < group(word[1]) {
			code = append(code, word)
		}
	}
	return code, api.OK
}

// group is one of three, as equal in size as can be. Where each word leads from a group to a later one, no three words lead on from one another, as they would in a clash: u, then the word in u v, then v.
func group(letter byte) int {
	return int(letter-'a') % 3
}

// scholtz makes the code from the letters. One word of an odd length after the other is left out, the shorter ones first, and put before the others as often as wanted. What is left of the odd length of the shape has, by Scholtz, one word of each ring and no clash.
func (s shape) scholtz() []string {
	words := slices.Collect(shape{s.flags, 1}.words())
	for length := 1; length < s.length; length += 2 {
		// This goes over the words as they were at the beginning: those that are new are longer than the one left out, so none of this length is missed.
		for _, front := range words {
			if len(front) == length {
				words = s.fronted(words, front)
			}
		}
	}
	words = slices.DeleteFunc(words, func(word string) bool { return len(word) != s.length })
	slices.Sort(words)
	return words
}

// fronted are all words but front, each with front before it any number of times, as far as the length of the shape goes.
func (s shape) fronted(words []string, front string) []string {
	var all []string
	for _, word := range words {
		if word == front {
			continue
		}
		for len(word) <= s.length {
			all = append(all, word)
			word = joined([]string{front, word})
		}
	}
	return all
}
