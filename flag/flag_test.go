package flag_test

import (
	"math"
	"math/rand"
	"slices"
	"strings"
	"testing"

	"careen/api"
	"careen/flag"
)

// wordsOf lists all words over k flags of the length n, rising.
func wordsOf(k, n int) []string {
	all := []string{""}
	for range n {
		var longer []string
		for _, word := range all {
			for letter := range k {
				longer = append(longer, word+"abcd"[letter:letter+1])
			}
		}
		all = longer
	}
	return all
}

// allTurns lists all turns of a word, also those that are the same.
func allTurns(word string) []string {
	var turns []string
	for range len(word) {
		turns = append(turns, word)
		word = word[1:] + word[:1]
	}
	return turns
}

// unique are the different ones of several words, rising.
func unique(words []string) []string {
	slices.Sort(words)
	return slices.Compact(words)
}

// someCode has each word with a chance of one in so many.
func someCode(r *rand.Rand, k, n, chance int) []string {
	return slices.DeleteFunc(wordsOf(k, n), func(string) bool { return r.Intn(chance) > 0 })
}

// everyCode lists all codes over k flags of the length n.
func everyCode(k, n int) [][]string {
	all := [][]string{nil}
	for _, word := range wordsOf(k, n) {
		for _, code := range all {
			all = append(all, append(slices.Clone(code), word))
		}
	}
	return all
}

// outcome is whether the results of a call are zero values, and its error.
type outcome struct {
	zero bool
	e    api.Errno
}

func yes(is bool, e api.Errno) outcome       { return outcome{!is, e} }
func many[T any](l []T, e api.Errno) outcome { return outcome{len(l) == 0, e} }

func clash(c [3]int, is bool, e api.Errno) outcome      { return outcome{c == [3]int{} && !is, e} }
func cut(pieces []string, is bool, e api.Errno) outcome { return outcome{len(pieces) == 0 && !is, e} }

// codeCalls are the functions that take a code.
func codeCalls(k, n int, code []string, which [3]int, stream string) map[string]outcome {
	return map[string]outcome{
		"Check":   {true, flag.Check(k, n, code)},
		"Clash":   clash(flag.Clash(k, n, code)),
		"IsClash": yes(flag.IsClash(k, n, code, which)),
		"Reads":   many(flag.Reads(k, n, code, stream)),
		"Cut":     cut(flag.Cut(k, n, code, stream)),
		"Grow":    many(flag.Grow(k, n, code)),
	}
}

// P6.1: ErrArg for a k or an n that is out of its range, whatever else is wrong, with zero values beside it.
func TestRanges(t *testing.T) {
	wrong := []int{0, -1, -2, 6, 7, 9, 64, 1 << 32, 1<<32 + 2, math.MaxInt, math.MinInt}
	var pairs [][2]int
	for _, x := range wrong {
		for y := 1; y <= 5; y++ {
			pairs = append(pairs, [2]int{x, y}, [2]int{y, x}, [2]int{5, y})
		}
		pairs = append(pairs, [2]int{x, x}, [2]int{x, 0}, [2]int{0, x})
	}
	for _, p := range pairs {
		k, n := p[0], p[1]
		for _, code := range [][]string{nil, {""}, {"a"}, {"ab", "aa"}, {"aab", "abb"}, {"aaaaaa"}, {"e"}, {"x", "x"}} {
			for name, got := range codeCalls(k, n, code, [3]int{}, "aaaaaaaaa?") {
				if (got != outcome{true, api.ErrArg}) {
					t.Errorf("%s(%d, %d, %q): %v", name, k, n, code, got)
				}
			}
		}
		for name, got := range map[string]outcome{"Rings": many(flag.Rings(k, n)), "Make": many(flag.Make(k, n))} {
			if (got != outcome{true, api.ErrArg}) {
				t.Errorf("%s(%d, %d): %v", name, k, n, got)
			}
		}
	}
}

// P6.1: ErrCode for a list that is no code, before all that is wrong with other arguments.
func TestWrongCodes(t *testing.T) {
	for _, x := range []struct {
		k, n int
		code []string
	}{
		{2, 3, []string{""}}, {2, 3, []string{"aa"}}, {2, 3, []string{"aaaa"}}, {2, 3, []string{"aab", "ab"}}, {2, 3, []string{"a", "aab"}}, {1, 1, []string{""}},
		{2, 3, []string{"aac"}}, {2, 3, []string{"caa"}}, {2, 3, []string{"aca"}}, {1, 1, []string{"b"}}, {3, 2, []string{"ab", "ad"}}, {4, 1, []string{"e"}}, {4, 5, []string{"abcde"}},
		{2, 3, []string{"aaB"}}, {2, 3, []string{"`aa"}}, {2, 3, []string{"a b"}}, {2, 3, []string{"ab\x00"}}, {4, 2, []string{"a\xff"}}, {4, 2, []string{"\u00e4"}}, {4, 3, []string{"\u0430b"}}, {4, 3, []string{"a\u00e4"}},
		{4, 1, []string{"\u0161"}}, {4, 4, []string{"\U00010061"}},
		{2, 3, []string{"abb", "aab"}}, {2, 3, []string{"aab", "aab"}}, {2, 3, []string{"aaa", "aab", "aab"}}, {2, 3, []string{"aab", "bbb", "abb"}}, {4, 1, []string{"a", "b", "d", "c"}},
		{2, 3, []string{"aab", "abb", "abc"}}, {2, 3, []string{"aab", "abb", strings.Repeat("b", 1000)}}, {4, 5, append(wordsOf(4, 5), "ddddd")},
	} {
		for _, which := range [][3]int{{}, {-1, 0, 0}, {0, 0, 1000}} {
			for _, stream := range []string{"", "aabaab", "?", strings.Repeat("a", 1001)} {
				for name, got := range codeCalls(x.k, x.n, x.code, which, stream) {
					if (got != outcome{true, api.ErrCode}) {
						t.Errorf("%s(%d, %d, %q): %v", name, x.k, x.n, x.code, got)
					}
				}
			}
		}
	}
}

// P6.1: Check of what is a code, the empty one and the greatest one too.
func TestCheck(t *testing.T) {
	r := rand.New(rand.NewSource(61))
	for k := 1; k <= 4; k++ {
		for n := 1; n <= 5; n++ {
			for _, code := range [][]string{nil, {}, wordsOf(k, n), someCode(r, k, n, 2), someCode(r, k, n, 9), wordsOf(k, n)[:1], {"dddddd"[:n]}} {
				want := api.OK
				if len(code) == 1 && code[0][0] == 'd' && k < 4 {
					want = api.ErrCode
				}
				if e := flag.Check(k, n, code); e != want {
					t.Errorf("Check(%d, %d, %q) = %d, not %d", k, n, code, e, want)
				}
			}
		}
	}
}

// P6.1: IsWhole, Turns and First of all words.
func TestWords(t *testing.T) {
	for n := 1; n <= 5; n++ {
		for _, word := range wordsOf(4, n) {
			want := unique(allTurns(word))
			is, e := flag.IsWhole(word)
			turns, f := flag.Turns(word)
			first, g := flag.First(word)
			if is != (len(want) == n) || !slices.Equal(turns, want) || first != want[0] || e != api.OK || f != api.OK || g != api.OK {
				t.Errorf("%s: %t, %v, %s, %d, %d, %d, not %v", word, is, turns, first, e, f, g, want)
			}
		}
	}
}

// P6.1: some words as they are written.
func TestWordsExamples(t *testing.T) {
	for word, want := range map[string]string{"a": "a", "d": "d", "aa": "aa", "ba": "ab ba", "abab": "abab baba", "baa": "aab aba baa", "dcba": "adcb badc cbad dcba", "ddddd": "ddddd", "babab": "ababb abbab babab babba bbaba"} {
		turns, e := flag.Turns(word)
		is, f := flag.IsWhole(word)
		first, g := flag.First(word)
		if strings.Join(turns, " ") != want || is != (len(turns) == len(word)) || first != turns[0] || e != api.OK || f != api.OK || g != api.OK {
			t.Errorf("%s: %v, %t, %s, not %s", word, turns, is, first, want)
		}
	}
}

// P6.1: ErrArg for strings that are no words over 4 flags.
func TestWrongWords(t *testing.T) {
	for _, word := range []string{"", "e", "A", "`", "0", " ", "aaaaaa", "abcdab", "abce", "eabc", "a b", "a\x00", "a\xff", "\u00e4", "\u0430", "ab\u00e4", "\u2028", strings.Repeat("a", 1<<16), strings.Repeat("e", 5)} {
		first, e := flag.First(word)
		for name, got := range map[string]outcome{"IsWhole": yes(flag.IsWhole(word)), "Turns": many(flag.Turns(word)), "First": {first == "", e}} {
			if (got != outcome{true, api.ErrArg}) {
				t.Errorf("%s(%q): %v", name, word, got)
			}
		}
	}
}

// R4: no call changes its arguments or reads behind their ends.
func TestArguments(t *testing.T) {
	list := []string{"aab", "abb", "?", "", "aab"}
	kept := slices.Clone(list)
	for name, got := range codeCalls(2, 3, list[:2], [3]int{0, 1, 1}, "aababb") {
		if wantZero := name == "Check" || name == "Clash" || name == "IsClash"; (got != outcome{wantZero, api.OK}) {
			t.Errorf("%s: %v", name, got)
		}
	}
	for range 2 {
		if grown, e := flag.Grow(3, 3, list[:1]); len(grown) < 2 || e != api.OK {
			t.Errorf("Grow: %v, %d", grown, e)
		}
	}
	if !slices.Equal(list, kept) {
		t.Errorf("the argument is now %q", list)
	}
}

// R4, R7: results are new memory, and the same each time.
func TestResults(t *testing.T) {
	code := []string{"aab", "abb"}
	for name, call := range map[string]func() ([]string, api.Errno){
		"Turns": func() ([]string, api.Errno) { return flag.Turns("aab") },
		"Rings": func() ([]string, api.Errno) { return flag.Rings(3, 3) },
		"Make":  func() ([]string, api.Errno) { return flag.Make(4, 5) },
		"Grow":  func() ([]string, api.Errno) { return flag.Grow(2, 3, code) },
		"More":  func() ([]string, api.Errno) { return flag.Grow(4, 4, nil) },
		"Two":   func() ([]string, api.Errno) { return flag.Two(4) },
		"Cut":   func() ([]string, api.Errno) { p, _, e := flag.Cut(2, 3, code, "aababb"); return p, e },
	} {
		first, _ := call()
		want := slices.Clone(first)
		for i := range first {
			first[i] = "?"
		}
		_ = append(first, "?")
		for range 3 {
			if got, e := call(); !slices.Equal(got, want) || len(got) == 0 || e != api.OK {
				t.Errorf("%s: %q, %d, not %q", name, got, e, want)
			}
		}
	}
	want, _, _ := flag.Clash(3, 3, wordsOf(3, 3))
	for range 20 {
		if got, is, e := flag.Clash(3, 3, wordsOf(3, 3)); got != want || !is || e != api.OK {
			t.Errorf("Clash: %v, %t, %d, not %v", got, is, e, want)
		}
	}
}
