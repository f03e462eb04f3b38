package order_test

import (
	"slices"
	"testing"

	"careen/api"
	"careen/order"
)

// P5.2: the example of the chapter, and the smallest orders.
func TestSoundExamples(t *testing.T) {
	for _, x := range []struct {
		o     order.Order
		sound []int
		words int64
		paths []int
	}{
		{either, []int{0, 1, 2, 3, 5, 6, 7}, 4, []int{1, 2, 5, 6}},
		{ring, []int{0, 4}, 0, []int{4}},
		{order.Order{N: 1, Ways: ways{nil}}, []int{0, 1}, 1, []int{1}},
		{order.Order{N: 1, Ways: ways{{0}}}, []int{0, 1}, 1, []int{1}},
		{order.Order{N: 2, Ways: ways{{2}, {1}}}, []int{0}, 0, nil},
		{order.Order{N: 2, Ways: ways{{0, 2}, {1}}}, []int{0, 1, 3}, 1, []int{1, 3}},
	} {
		sound, e := order.Sound(x.o)
		words, f := order.Words(x.o)
		paths, g := order.Paths(x.o)
		if !slices.Equal(sound, x.sound) || words != x.words || !slices.Equal(paths, x.paths) || e+f+g != api.OK {
			t.Errorf("%v: %v, %d, %v", x.o, sound, words, paths)
		}
	}
	if words, e := order.Words(free); words != 40320 || e != api.OK {
		t.Errorf("Words(%v) = %d, %d", free, words, e)
	}
}

// P5.2: Sound, IsSound and Words against all words.
func TestSound(t *testing.T) {
	for _, o := range examples() {
		words := wordsOf(o)
		in := map[int]bool{}
		var whole int64
		for _, word := range words {
			in[setOf(word)] = true
			if len(word) == o.N {
				whole++
			}
		}
		if got, e := order.Sound(o); !slices.Equal(got, sorted(in)) || e != api.OK {
			t.Fatalf("Sound(%v) = %v, %d, not %v", o, got, e, sorted(in))
		}
		if got, e := order.Words(o); got != whole || e != api.OK {
			t.Fatalf("Words(%v) = %d, %d, not %d", o, got, e, whole)
		}
		for set := range 1 << o.N {
			if got, e := order.IsSound(o, set); got != in[set] || e != api.OK {
				t.Fatalf("IsSound(%v, %d) = %t, %d", o, set, got, e)
			}
		}
	}
}

// P5.2: Word has just the hulls of the set, each of which can go.
func TestWord(t *testing.T) {
	for _, o := range append(examples(), either, ring) {
		sound := soundOf(o)
		for set := range 1 << o.N {
			word, e := order.Word(o, set)
			if !slices.Contains(sound, set) {
				if e != api.ErrNone || len(word) != 0 {
					t.Fatalf("Word(%v, %d) = %v, %d", o, set, word, e)
				}
				continue
			}
			if e != api.OK || len(word) != len(hulls(set)) || setOf(word) != set {
				t.Fatalf("Word(%v, %d) = %v, %d", o, set, word, e)
			}
			for i, h := range word {
				if !canGo(o, h, word[:i]) {
					t.Fatalf("Word(%v, %d) = %v: not %d", o, set, word, h)
				}
			}
		}
	}
}

// P5.2: Greatest is sound, within the set, and contains all other sound sets that are.
func TestGreatest(t *testing.T) {
	for _, o := range append(examples(), either, ring) {
		sound := soundOf(o)
		for set := range 1 << o.N {
			got, e := order.Greatest(o, set)
			if e != api.OK || got&^set != 0 || !slices.Contains(sound, got) {
				t.Fatalf("Greatest(%v, %d) = %d, %d", o, set, got, e)
			}
			for _, other := range sound {
				if other&^set == 0 && other&^got != 0 {
					t.Fatalf("Greatest(%v, %d) = %d without %d", o, set, got, other)
				}
			}
		}
	}
}

// endsOf are the ends of a sound set.
func endsOf(sound []int, set int) int {
	ends := 0
	for _, h := range hulls(set) {
		if slices.Contains(sound, set-1<<h) {
			ends += 1 << h
		}
	}
	return ends
}

// P5.3: Ends of all sets, and Paths.
func TestEndsAndPaths(t *testing.T) {
	for _, o := range append(examples(), either, ring) {
		sound := soundOf(o)
		var paths []int
		for set := range 1 << o.N {
			want, wanted := 0, api.ErrNone
			if slices.Contains(sound, set) {
				want, wanted = endsOf(sound, set), api.OK
				if len(hulls(want)) == 1 {
					paths = append(paths, set)
				}
			}
			if got, e := order.Ends(o, set); got != want || e != wanted {
				t.Fatalf("Ends(%v, %d) = %d, %d, not %d, %d", o, set, got, e, want, wanted)
			}
		}
		if got, e := order.Paths(o); !slices.Equal(got, paths) || e != api.OK {
			t.Fatalf("Paths(%v) = %v, %d, not %v", o, got, e, paths)
		}
	}
}

// P5.7: the union of sound sets is sound; each sound set is the union of paths, and has an end if it is not empty.
func TestUnions(t *testing.T) {
	for _, o := range append(examples(), either, ring) {
		sound, _ := order.Sound(o)
		paths, _ := order.Paths(o)
		isSound := map[int]bool{}
		for _, set := range sound {
			isSound[set] = true
		}
		for _, set := range sound {
			union := 0
			for _, path := range paths {
				if path&^set == 0 {
					union |= path
				}
			}
			ends, e := order.Ends(o, set)
			if union != set || (ends == 0) != (set == 0) || e != api.OK {
				t.Fatalf("%d of %v: the union of its paths is %d, its ends are %d", set, o, union, ends)
			}
			for _, other := range sound {
				if !isSound[set|other] {
					t.Fatalf("%v: not %d, the union of %d and %d", o, set|other, set, other)
				}
			}
		}
	}
}
