package flag

import "careen/api"

// Clash returns a clash of a code and true, or false if the code is comma-free.
func Clash(k, n int, code []string) ([3]int, bool, api.Errno) {
	if e := Check(k, n, code); e != api.OK {
		return [3]int{}, false, e
	}
	found, is := clash(code...)
	return found, is, api.OK
}

// IsClash returns whether clash is a clash of a code.
func IsClash(k, n int, code []string, clash [3]int) (bool, api.Errno) {
	if e := Check(k, n, code); e != api.OK {
		return false, e
	}
	for _, i := range clash {
		if i < 0 || i >= len(code) {
			return false, api.OK
		}
	}
	return isWithin(code[clash[2]], code[clash[0]], code[clash[1]]), api.OK
}

// halves are the two parts of a word that is cut somewhere; none is empty.
type halves struct{ front, back string }

func halvesOf(word string) []halves {
	var all []halves
	for i := 1; i < len(word); i++ {
		all = append(all, halves{word[:i], word[i:]})
	}
	return all
}

// isWithin tells whether a word is in u v at a place other than the beginning and the end: all three have the same length.
func isWithin(word, u, v string) bool {
	for _, h := range halvesOf(word) {
		place := len(h.back)
		if (halves{u[place:], v[:place]}) == h {
			return true
		}
	}
	return false
}

// clash returns a clash of different words of one length and true, or false if there is none. A word is in two others put together just if one of its fronts is the end of a word, and the back that belongs to it the beginning of one.
func clash(words ...string) ([3]int, bool) {
	begin, end := map[string]int{}, map[string]int{}
	for i, word := range words {
		for _, h := range halvesOf(word) {
			begin[h.front], end[h.back] = i, i
		}
	}
	var found [3]int
	var is bool
search:
	for w, word := range words {
		for _, h := range halvesOf(word) {
			u, isEnd := end[h.front]
			v, isBeginning := begin[h.back]
			if isEnd && isBeginning {
				found, is = [3]int{u, v, w}, true
				break search
			}
		}
	}
	return found, is
}
