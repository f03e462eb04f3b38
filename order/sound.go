package order

import (
	"iter"
	"slices"

	"careen/api"
)

// Sound returns the sound sets, rising.
func Sound(o Order) ([]int, api.Errno) {
	if e := check(o); e != api.OK {
		return nil, e
	}
	m := o.sound()
	return slices.Collect(m.sets()), api.OK
}

// IsSound returns whether a set is sound.
func IsSound(o Order, set int) (bool, api.Errno) {
	if e := check(o, set); e != api.OK {
		return false, e
	}
	return o.sound()[set], api.OK
}

// Word returns a word with just the hulls of a sound set.
func Word(o Order, set int) ([]int, api.Errno) {
	if e := check(o, set); e != api.OK {
		return nil, e
	}
	m := o.sound()
	if !m[set] {
		return nil, api.ErrNone
	}
	return wordOf(set, func(_, rest int) bool { return m[rest] }), api.OK
}

// Words returns the number of whole words.
func Words(o Order) (int64, api.Errno) {
	if e := check(o); e != api.OK {
		return 0, e
	}
	memory := map[int]int64{o.all(): 1}
	return o.words(0, memory), api.OK
}

// Greatest returns the sound set within a set that contains all others.
func Greatest(o Order, set int) (int, api.Errno) {
	if e := check(o, set); e != api.OK {
		return 0, e
	}
	return o.greatest(set), api.OK
}

// Ends returns the hulls of a sound set without which it is sound, too.
func Ends(o Order, set int) (int, api.Errno) {
	if e := check(o, set); e != api.OK {
		return 0, e
	}
	m := o.sound()
	if !m[set] {
		return 0, api.ErrNone
	}
	return setOf(m.ends(set)...), api.OK
}

// Paths returns the sound sets with just one end, rising.
func Paths(o Order) ([]int, api.Errno) {
	if e := check(o); e != api.OK {
		return nil, e
	}
	m := o.sound()
	var list []int
	for path := range m.paths() {
		list = append(list, path)
	}
	return list, api.OK
}

// marks tell of each set of hulls whether it is sound.
type marks [1 << mostHulls]bool

func (o Order) sound() marks {
	m := marks{0: true}
	// Who goes makes the set greater: so nothing is marked that was passed before.
	for set := range o.all() {
		if !m[set] {
			continue
		}
		for hull := range o.ready(set) {
			m[set|setOf(hull)] = true
		}
	}
	return m
}

// sets are the sound sets, rising.
func (m *marks) sets() iter.Seq[int] {
	return func(yield func(int) bool) {
		for set, isSound := range m {
			if isSound && !yield(set) {
				return
			}
		}
	}
}

// ends lists the ends of a sound set, rising.
func (m *marks) ends(set int) []int {
	var ends []int
	for hull := range hullsOf(set) {
		if m[set&^setOf(hull)] {
			ends = append(ends, hull)
		}
	}
	return ends
}

// paths are the paths, rising, each with its end.
func (m *marks) paths() iter.Seq2[int, int] {
	return func(yield func(path, end int) bool) {
		for set := range m.sets() {
			if ends := m.ends(set); len(ends) == 1 && !yield(set, ends[0]) {
				return
			}
		}
	}
}

// wordOf lists the hulls of a set as a word, found from its last hull on: isLast tells whether a hull may follow when the rest has gone. There must be such a hull as long as the set is not empty.
func wordOf(set int, isLast func(hull, rest int) bool) []int {
	var word []int
back:
	for {
		for hull := range hullsOf(set) {
			if rest := set &^ setOf(hull); isLast(hull, rest) {
				word, set = append(word, hull), rest
				continue back
			}
		}
		slices.Reverse(word)
		return word
	}
}

// words is the number of ways in which all others can go when a set has gone; the memory has what is known of that.
func (o Order) words(gone int, memory map[int]int64) int64 {
	if count, known := memory[gone]; known {
		return count
	}
	var count int64
	for hull := range o.ready(gone) {
		count += o.words(gone|setOf(hull), memory)
	}
	memory[gone] = count
	return count
}

// greatest lets go whoever can within a set. What can go can also go later, so each word within the set gets through.
func (o Order) greatest(within int) int {
	gone := 0
	for {
		next := gone
		for hull := range o.ready(gone) {
			next |= setOf(hull) & within
		}
		if next == gone {
			return gone
		}
		gone = next
	}
}
