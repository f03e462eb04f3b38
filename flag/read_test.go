package flag_test

import (
	"math/rand"
	"slices"
	"strings"
	"testing"

	"careen/api"
	"careen/flag"
)

// cuts are the pieces of a stream from a letter on, and whether the code reads it there.
func cuts(n int, code []string, stream string, from int) ([]string, bool) {
	var pieces []string
	for i := from; i+n <= len(stream); i += n {
		pieces = append(pieces, stream[i:i+n])
	}
	for _, piece := range pieces {
		if !slices.Contains(code, piece) {
			return pieces, false
		}
	}
	return pieces, len(pieces) > 0
}

// expectRead checks Reads and Cut against the definition, and returns at how many places the code reads the stream.
func expectRead(t *testing.T, k, n int, code []string, stream string) int {
	t.Helper()
	var starts []int
	var pieces []string
	for i := range n {
		if at, is := cuts(n, code, stream, i); is {
			starts, pieces = append(starts, i), at
		}
	}
	if len(starts) != 1 {
		pieces = nil
	}
	if got, e := flag.Reads(k, n, code, stream); !slices.Equal(got, starts) || e != api.OK {
		t.Fatalf("Reads(%d, %d, %v, %q) = %v, %d, not %v", k, n, code, stream, got, e, starts)
	}
	if got, is, e := flag.Cut(k, n, code, stream); !slices.Equal(got, pieces) || is != (len(starts) == 1) || e != api.OK {
		t.Fatalf("Cut(%d, %d, %v, %q) = %v, %t, %d, not %v", k, n, code, stream, got, is, e, pieces)
	}
	return len(starts)
}

// P6.4: the examples of the chapter, and streams with no, one and several places.
func TestReadsExamples(t *testing.T) {
	two := []string{"aab", "abb"}
	for _, x := range []struct {
		example
		stream string
		starts []int
		pieces string
	}{
		{example{2, 3, two}, "babbaab", []int{1}, "abb aab"},
		{example{2, 3, two}, "aab", []int{0}, "aab"},
		{example{2, 3, two}, "aabab", []int{0}, "aab"},
		{example{2, 3, two}, "bbaab", []int{2}, "aab"},
		{example{2, 3, two}, "bbaabbab", nil, ""},
		{example{2, 3, two}, "", nil, ""},
		{example{2, 3, two}, "ab", nil, ""},
		{example{2, 3, two}, "aba", nil, ""},
		{example{2, 3, two}, "aabb", []int{0, 1}, ""},
		{example{2, 3, nil}, "aabb", nil, ""},
		{example{1, 3, []string{"aaa"}}, "aa", nil, ""},
		{example{1, 3, []string{"aaa"}}, "aaa", []int{0}, "aaa"},
		{example{1, 3, []string{"aaa"}}, "aaaa", []int{0, 1}, ""},
		{example{1, 5, []string{"aaaaa"}}, "aaaaaaaaaaaaa", []int{0, 1, 2, 3, 4}, ""},
		{example{4, 1, []string{"a", "d"}}, "adda", []int{0}, "a d d a"},
		{example{4, 1, []string{"a", "d"}}, "adba", nil, ""},
		{example{4, 5, []string{"abcdd"}}, "dcbaabcddabcddabcd", []int{4}, "abcdd abcdd"},
	} {
		starts, e := flag.Reads(x.k, x.n, x.code, x.stream)
		pieces, is, f := flag.Cut(x.k, x.n, x.code, x.stream)
		if !slices.Equal(starts, x.starts) || strings.Join(pieces, " ") != x.pieces || is != (len(x.starts) == 1) || e != api.OK || f != api.OK {
			t.Errorf("%v, %q: %v, %d, %v, %t, %d", x.example, x.stream, starts, e, pieces, is, f)
		}
	}
}

// P6.4: all short streams by all codes of small kinds, and by some of others.
func TestReads(t *testing.T) {
	seen := map[int]int{}
	for length := range 8 {
		for _, stream := range wordsOf(2, length) {
			for _, n := range []int{1, 2} {
				for _, code := range everyCode(2, n) {
					seen[expectRead(t, 2, n, code, stream)]++
				}
			}
			for _, code := range everyCode(2, 3)[:100] {
				seen[expectRead(t, 2, 3, code, stream)]++
			}
		}
	}
	r := rand.New(rand.NewSource(65))
	for _, x := range examples(40) {
		stream := ""
		for range r.Intn(30) {
			stream += "abcd"[:x.k][r.Intn(x.k):][:1]
		}
		seen[expectRead(t, x.k, x.n, x.code, stream)]++
		seen[expectRead(t, x.k, x.n, x.code, readable(r, x))]++
	}
	if seen[0] < 100 || seen[1] < 100 || seen[2] < 100 || seen[3] < 10 {
		t.Errorf("so many streams were read at so many places: %v", seen)
	}
}

// readable is a stream of some words of a code, with beginnings or ends of words before and after them.
func readable(r *rand.Rand, x example) string {
	stream := ""
	for range r.Intn(6) {
		if len(x.code) > 0 {
			stream += x.code[r.Intn(len(x.code))]
		}
	}
	words := wordsOf(x.k, x.n)
	return words[r.Intn(len(words))][:r.Intn(x.n)] + stream + words[r.Intn(len(words))][:r.Intn(x.n)]
}

// P6.4: ErrArg for streams that are too long or have other characters.
func TestWrongStreams(t *testing.T) {
	code := []string{"aab", "abb"}
	for _, stream := range []string{"c", "aabc", "caab", "aab ", "AAB", "a`b", "aa\x00", "\xff", "aab\xc3", "\u00e4", "aab\u0430", strings.Repeat("a", 1001), strings.Repeat("aab", 334), strings.Repeat("?", 2000), strings.Repeat("a", 1<<20)} {
		for name, got := range map[string]outcome{"Reads": many(flag.Reads(2, 3, code, stream)), "Cut": cut(flag.Cut(2, 3, code, stream))} {
			if (got != outcome{true, api.ErrArg}) {
				t.Errorf("%s of %.9q: %v", name, stream, got)
			}
		}
	}
	for _, length := range []int{999, 1000} {
		expectRead(t, 2, 3, code, strings.Repeat("aab", 334)[:length])
		expectRead(t, 2, 3, []string{"aaa"}, strings.Repeat("a", length))
		expectRead(t, 4, 1, []string{"d"}, strings.Repeat("d", length))
	}
	for k := 1; k < 4; k++ {
		next := "abcd"[k : k+1]
		if got := many(flag.Reads(k, 1, []string{"a"}, next)); (got != outcome{true, api.ErrArg}) {
			t.Errorf("Reads of %s over %d flags: %v", next, k, got)
		}
		expectRead(t, k+1, 1, []string{"a"}, next)
	}
}

// P6.5: of words of a comma-free code, one after the other, Reads returns just 0, and Cut the words.
func TestReadsFree(t *testing.T) {
	r := rand.New(rand.NewSource(66))
	all := examples(40)
	for k := 1; k <= 4; k++ {
		for _, n := range []int{1, 3, 5} {
			code, _ := flag.Make(k, n)
			all = append(all, example{k, n, code})
		}
	}
	for _, x := range all {
		if len(x.code) == 0 || !isFree(x.code) {
			continue
		}
		for _, count := range []int{1, 2, 3, 20} {
			var words []string
			for range count {
				words = append(words, x.code[r.Intn(len(x.code))])
			}
			stream := strings.Join(words, "")
			starts, e := flag.Reads(x.k, x.n, x.code, stream)
			pieces, is, f := flag.Cut(x.k, x.n, x.code, stream)
			if !slices.Equal(starts, []int{0}) || !slices.Equal(pieces, words) || !is || e != api.OK || f != api.OK {
				t.Fatalf("%v, %v: %v, %d, %v, %t, %d", x, words, starts, e, pieces, is, f)
			}
		}
	}
}
