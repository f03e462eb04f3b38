package flag_test

import (
	"math"
	"math/rand"
	"slices"
	"testing"

	"careen/api"
	"careen/flag"
)

// isClash holds three words against the definition.
func isClash(u, v, w string) bool {
	for place := 1; place < len(w); place++ {
		if (u + v)[place:place+len(w)] == w {
			return true
		}
	}
	return false
}

// isFree tells whether a code is comma-free: whether no two of its words have one of its words between them.
func isFree(code []string) bool {
	in := map[string]bool{}
	for _, word := range code {
		in[word] = true
	}
	for _, u := range code {
		for _, v := range code {
			for place := 1; place < len(u); place++ {
				if in[(u + v)[place:place+len(u)]] {
					return false
				}
			}
		}
	}
	return true
}

// freeCode is a comma-free code of at most so many words, in no special way.
func freeCode(r *rand.Rand, k, n, most int) []string {
	var code []string
	words := wordsOf(k, n)
	for _, i := range r.Perm(len(words)) {
		if longer := append(slices.Clone(code), words[i]); len(code) < most && isFree(longer) {
			code = longer
		}
	}
	slices.Sort(code)
	return code
}

// example is a code with the k and the n that belong to it.
type example struct {
	k, n int
	code []string
}

// examples are all codes of small kinds, and of each of the others some, by so many rounds.
func examples(rounds int) []example {
	var all []example
	for _, p := range [][2]int{{1, 1}, {1, 2}, {1, 3}, {1, 4}, {1, 5}, {2, 1}, {3, 1}, {4, 1}, {2, 2}, {2, 3}, {3, 2}} {
		for _, code := range everyCode(p[0], p[1]) {
			all = append(all, example{p[0], p[1], code})
		}
	}
	r := rand.New(rand.NewSource(63))
	for range rounds {
		for _, p := range [][2]int{{2, 4}, {2, 5}, {3, 3}, {4, 2}, {3, 4}, {4, 3}, {4, 4}, {3, 5}, {4, 5}} {
			k, n := p[0], p[1]
			words := len(wordsOf(k, n))
			all = append(all, example{k, n, freeCode(r, k, n, 1+r.Intn(8))}, example{k, n, someCode(r, k, n, words/4)})
		}
	}
	return all
}

// P6.3: Clash of all codes, against the definition; P6.5: comma-free codes have whole words only, and at most one of each ring.
func TestClash(t *testing.T) {
	free, bound := 0, 0
	for _, x := range examples(40) {
		got, is, e := flag.Clash(x.k, x.n, x.code)
		if is == isFree(x.code) || e != api.OK {
			t.Fatalf("Clash of %v = %v, %t, %d", x, got, is, e)
		}
		if is && !isClash(x.code[got[0]], x.code[got[1]], x.code[got[2]]) || !is && got != [3]int{} {
			t.Fatalf("Clash of %v = %v, %t", x, got, is)
		}
		if is {
			bound++
			continue
		}
		free++
		rings := map[string]bool{}
		for _, word := range x.code {
			first, _ := flag.First(word)
			whole, _ := flag.IsWhole(word)
			if rings[first] || !whole {
				t.Fatalf("%s of %v is not whole, or the second one of its ring", word, x)
			}
			rings[first] = true
		}
		if count, _ := flag.CountRings(x.k, x.n); int64(len(x.code)) > count {
			t.Fatalf("%v has more than %d words", x, count)
		}
	}
	if free < 300 || bound < 300 {
		t.Errorf("%d codes are comma-free, %d are not", free, bound)
	}
}

// P6.3: the examples of the chapter, and some codes with just one clash or one place of it.
func TestClashExamples(t *testing.T) {
	for _, x := range []struct {
		example
		want [][3]int
	}{
		{example{2, 3, []string{"aab", "abb"}}, nil},
		{example{2, 3, []string{"aab"}}, nil},
		{example{2, 2, []string{"ab", "ba"}}, [][3]int{{0, 0, 1}, {1, 1, 0}}},
		{example{2, 2, []string{"aa"}}, [][3]int{{0, 0, 0}}},
		{example{4, 5, []string{"ddddd"}}, [][3]int{{0, 0, 0}}},
		{example{2, 4, []string{"abab"}}, [][3]int{{0, 0, 0}}},
		{example{4, 1, []string{"a", "b", "c", "d"}}, nil},
		{example{1, 1, []string{"a"}}, nil},
		{example{4, 5, nil}, nil},
		{example{4, 3, []string{"abc", "bcd", "dbc"}}, [][3]int{{0, 2, 1}}},
		{example{4, 5, []string{"abbbc", "bcdda", "ddaaa"}}, [][3]int{{0, 2, 1}}},
		{example{4, 5, []string{"abccd", "bccda", "dabcc"}}, [][3]int{{0, 0, 1}, {0, 0, 2}, {1, 1, 0}, {1, 1, 2}, {2, 2, 0}, {2, 2, 1}}},
	} {
		var all [][3]int
		for u := range x.code {
			for v := range x.code {
				for w := range x.code {
					if isClash(x.code[u], x.code[v], x.code[w]) {
						all = append(all, [3]int{u, v, w})
					}
				}
			}
		}
		got, is, e := flag.Clash(x.k, x.n, x.code)
		if is != (len(x.want) > 0) || is && !slices.Contains(all, got) || e != api.OK {
			t.Errorf("Clash of %v = %v, %t, %d, not one of %v", x.example, got, is, e, all)
		}
		for _, c := range x.want {
			if is, e := flag.IsClash(x.k, x.n, x.code, c); !is || e != api.OK || !slices.Contains(all, c) {
				t.Errorf("IsClash of %v, %v = %t, %d", x.example, c, is, e)
			}
		}
	}
}

// P6.3: IsClash of all triples, those with indices of no word too.
func TestIsClash(t *testing.T) {
	for _, x := range examples(40) {
		words := len(x.code)
		for i := range (words + 2) * (words + 2) * (words + 2) {
			c := [3]int{i%(words+2) - 1, i/(words+2)%(words+2) - 1, i/(words+2)/(words+2) - 1}
			want := slices.Min(c[:]) >= 0 && slices.Max(c[:]) < words && isClash(x.code[c[0]], x.code[c[1]], x.code[c[2]])
			if is, e := flag.IsClash(x.k, x.n, x.code, c); is != want || e != api.OK {
				t.Fatalf("IsClash of %v, %v = %t, %d, not %t", x, c, is, e, want)
			}
		}
	}
	for _, bad := range []int{2, 3, 1 << 32, math.MaxInt, -1, math.MinInt} {
		for place := range 3 {
			c := [3]int{0, 0, 1}
			c[place] = bad
			if is, e := flag.IsClash(2, 2, []string{"ab", "ba"}, c); is || e != api.OK {
				t.Errorf("IsClash of %v = %t, %d", c, is, e)
			}
		}
	}
	if is, e := flag.IsClash(2, 2, nil, [3]int{}); is || e != api.OK {
		t.Errorf("IsClash of no words: %t, %d", is, e)
	}
}

// P6.3: the greatest code of each kind, and a comma-free one with a word that clashes with itself.
func TestLargeCodes(t *testing.T) {
	for k := 1; k <= 4; k++ {
		for n := 1; n <= 5; n++ {
			code := wordsOf(k, n)
			c, is, e := flag.Clash(k, n, code)
			if is != (n > 1) || is && !isClash(code[c[0]], code[c[1]], code[c[2]]) || e != api.OK {
				t.Errorf("Clash of all words (%d, %d): %v, %t, %d", k, n, c, is, e)
			}
		}
	}
	code, _ := flag.Make(4, 5)
	code = append(code, "ddddd")
	c, is, e := flag.Clash(4, 5, code)
	if !is || !isClash(code[c[0]], code[c[1]], code[c[2]]) || e != api.OK {
		t.Errorf("Clash of %v: %v, %t, %d", code, c, is, e)
	}
}
