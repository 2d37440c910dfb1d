package text_test

import (
	"math/rand"
	"reflect"
	"slices"
	"testing"

	"oyez/api"
	"oyez/text"
)

// The tests call exported functions only, and hold their results against what this file finds out by trying all.

func word(syllables, weight int, stop bool) text.Word {
	return text.Word{Syllables: syllables, Weight: weight, Stop: stop}
}

func span(lo, hi int) api.Span { return api.Span{Lo: lo, Hi: hi} }

func turn(word, lo, hi int) text.Turn { return text.Turn{Word: word, Core: span(lo, hi)} }

func list(n ...int) []int { return n }

// gate is the text of the examples, with the Core of its turn up to a word.
func gate(last int) text.Text {
	t := text.Text{Turns: []text.Turn{turn(3, 4, last)}, Breath: 5}
	for i, weight := range list(0, 4, 0, 3, 3, 3, 0, 2) {
		t.Words = append(t.Words, word(1, weight, i%2 == 1))
	}
	return t
}

// plain has words with so many syllables, of which all have a stop behind them, and no turns.
func plain(breath int, syllables ...int) text.Text {
	t := text.Text{Breath: breath}
	for _, n := range syllables {
		t.Words = append(t.Words, word(n, 0, true))
	}
	return t
}

// clone returns a text that shares no memory with another one.
func clone(t text.Text) text.Text {
	t.Words, t.Turns = slices.Clone(t.Words), slices.Clone(t.Turns)
	return t
}

// words returns a set of all words from one to another one.
func words(lo, hi int) int {
	set := 0
	for word := lo; word <= hi; word++ {
		set |= 1 << word
	}
	return set
}

// listOf returns the elements of a set, in increasing order.
func listOf(set int) []int {
	var all []int
	for n := range text.MaxWords {
		if set&(1<<n) != 0 {
			all = append(all, n)
		}
	}
	return all
}

// sets yields all lists of at least one of n words, the shorter ones first, lists of a length in lexicographic order.
func sets(n int, yield func(set int, l []int) bool) {
	var all [][]int
	for set := 1; set < 1<<n; set++ {
		all = append(all, listOf(set))
	}
	slices.SortFunc(all, func(a, b []int) int {
		if len(a) != len(b) {
			return len(a) - len(b)
		}
		return slices.Compare(a, b)
	})
	for _, l := range all {
		set := 0
		for _, word := range l {
			set |= 1 << word
		}
		if !yield(set, l) {
			return
		}
	}
}

// otherwise reports whether words say a turn otherwise.
func otherwise(u text.Turn, set int) bool {
	core := words(u.Core.Lo, u.Core.Hi)
	return set&core == core && set&(1<<u.Word) == 0
}

// syllables returns how many the words of a set have.
func syllables(t text.Text, set int) int {
	n := 0
	for _, word := range listOf(set) {
		n += t.Words[word].Syllables
	}
	return n
}

// wrong returns what is wrong with a breath first, or false if it is right.
func wrong(t text.Text, from, to int) (text.Kind, bool) {
	set := words(from, to-1)
	switch {
	case syllables(t, set) > t.Breath:
		return text.Long, true
	case from > 0 && !t.Words[from-1].Stop, to < len(t.Words) && !t.Words[to-1].Stop:
		return text.Cut, true
	case slices.ContainsFunc(t.Turns, func(u text.Turn) bool { return otherwise(u, set) }):
		return text.Otherwise, true
	}
	return 0, false
}

// breaths returns the two places of each right breath.
func breaths(t text.Text) [][2]int {
	var all [][2]int
	for from := range t.Words {
		for to := from + 1; to <= len(t.Words); to++ {
			if _, is := wrong(t, from, to); !is {
				all = append(all, [2]int{from, to})
			}
		}
	}
	return all
}

// readings returns all readings of so many words: each set of places between two of them breaks one.
func readings(n int) [][]int {
	var all [][]int
	for places := range 1 << (n - 1) {
		var l []int
		from := 0
		for to := 1; to <= n; to++ {
			if to == n || places&(1<<(to-1)) != 0 {
				l = append(l, to-from)
				from = to
			}
		}
		all = append(all, l)
	}
	return all
}

// ends returns the places of a reading, from 0 to the last one.
func ends(reading []int) []int {
	l := list(0)
	for _, n := range reading {
		l = append(l, l[len(l)-1]+n)
	}
	return l
}

// firstWrong returns the first breath of a reading that is not right, and why, or ErrNone.
func firstWrong(t text.Text, reading []int) (int, text.Kind, api.Errno) {
	l := ends(reading)
	for i := range reading {
		if kind, is := wrong(t, l[i], l[i+1]); is {
			return i, kind, api.OK
		}
	}
	return 0, 0, api.ErrNone
}

func isRight(t text.Text, reading []int) bool {
	_, _, e := firstWrong(t, reading)
	return e == api.ErrNone
}

// rightReadings returns all right readings, those with the fewest breaths first.
func rightReadings(t text.Text) [][]int {
	var all [][]int
	for _, l := range readings(len(t.Words)) {
		if isRight(t, l) {
			all = append(all, l)
		}
	}
	slices.SortStableFunc(all, func(a, b []int) int { return len(a) - len(b) })
	return all
}

// astray returns the first turn that a run says otherwise, and the first such run, or ErrNone.
func astray(t text.Text, reading []int) (int, api.Span, api.Errno) {
	l := ends(reading)
	for i, u := range t.Turns {
		for first := range reading {
			for last := first; last < len(reading); last++ {
				if otherwise(u, words(l[first], l[last+1]-1)) {
					return i, span(first, last), api.OK
				}
			}
		}
	}
	return 0, api.Span{}, api.ErrNone
}

// greatest returns the greatest number of syllables in a breath of a reading.
func greatest(t text.Text, reading []int) int {
	most, l := 0, ends(reading)
	for i := range reading {
		most = max(most, syllables(t, words(l[i], l[i+1]-1)))
	}
	return most
}

// holds reports whether marks do.
func holds(t text.Text, marks []int) bool {
	for _, b := range breaths(t) {
		if marks[b[1]] > marks[b[0]]+1 {
			return false
		}
	}
	return marks[0] == 0
}

// loneWords returns the first of the longest lists of words no two of which are in the same right breath.
func loneWords(t text.Text) []int {
	var found []int
	all := breaths(t)
	sets(len(t.Words), func(set int, l []int) bool {
		together := slices.ContainsFunc(all, func(b [2]int) bool {
			return len(listOf(set&words(b[0], b[1]-1))) > 1
		})
		if !together && len(l) > len(found) {
			found = l
		}
		return true
	})
	return found
}

// keeps reports whether words keep the sense, and returns their weight.
func keeps(t text.Text, set int) (bool, int) {
	weight := 0
	for _, word := range listOf(set) {
		weight += t.Words[word].Weight
	}
	return !slices.ContainsFunc(t.Turns, func(u text.Turn) bool { return otherwise(u, set) }), weight
}

// leastWords returns the first of the shortest lists that keep the sense, and have a weight.
func leastWords(t text.Text, weight int) []int {
	var found []int
	sets(len(t.Words), func(set int, l []int) bool {
		if is, n := keeps(t, set); is && n >= weight {
			found = l
		}
		return found == nil
	})
	return found
}

// someText returns a text of so many words at most. Most breaths have room for a few words, so that there are readings, but not all.
func someText(r *rand.Rand, maxWords int) text.Text {
	n := 1 + r.Intn(maxWords)
	most, stops := 1+r.Intn(4), 1+r.Intn(5)
	t := text.Text{Breath: most + r.Intn(2*most+n)}
	for range n {
		t.Words = append(t.Words, word(1+r.Intn(most), r.Intn(6), r.Intn(5) < stops))
	}
	for range r.Intn(4) {
		lo := r.Intn(n)
		hi := min(n-1, lo+r.Intn(4))
		w := r.Intn(n)
		if r.Intn(2) == 0 {
			w = hi + 1
		}
		if w < n && (w < lo || w > hi) {
			t.Turns = append(t.Turns, turn(w, lo, hi))
		}
	}
	return t
}

// someTexts calls a function with texts, always the same ones.
func someTexts(t *testing.T, n, maxWords int, check func(r *rand.Rand, x text.Text)) {
	t.Helper()
	r := rand.New(rand.NewSource(12))
	for range n {
		x := someText(r, maxWords)
		check(r, x)
		if t.Failed() {
			t.Fatalf("in the text %+v", x)
		}
	}
}

// args are what a call is given; each call takes what it needs of them.
type args struct {
	t                    text.Text
	part                 api.Span
	reading, marks, kept []int
	weight, pence        int
}

// good returns arguments with which all calls are right but Wrong, whose reading must not be.
func good() args {
	return args{t: gate(7), part: span(4, 7), reading: list(4, 2, 2), marks: list(0, 0, 1, 0, 1, 0, 2, 0, 2), kept: list(1, 3, 4), weight: 7, pence: 2}
}

func (x args) clone() args {
	x.t = clone(x.t)
	x.reading, x.marks, x.kept = slices.Clone(x.reading), slices.Clone(x.marks), slices.Clone(x.kept)
	return x
}

// call is one of the functions, with its results beside the error.
type call struct {
	name string
	do   func(args) ([]any, api.Errno)
}

func one[T any](v T, e api.Errno) ([]any, api.Errno) { return []any{v}, e }

func two[S, T any](v S, u T, e api.Errno) ([]any, api.Errno) { return []any{v, u}, e }

func calls() []call {
	return []call{
		{"Check", func(x args) ([]any, api.Errno) { return nil, text.Check(x.t) }},
		{"Says", func(x args) ([]any, api.Errno) { return one(text.Says(x.t, x.part)) }},
		{"Wrong", func(x args) ([]any, api.Errno) { return two(text.Wrong(x.t, x.reading)) }},
		{"Fewest", func(x args) ([]any, api.Errno) { return one(text.Fewest(x.t)) }},
		{"Count", func(x args) ([]any, api.Errno) { return one(text.Count(x.t)) }},
		{"Never", func(x args) ([]any, api.Errno) { return one(text.Never(x.t)) }},
		{"Marks", func(x args) ([]any, api.Errno) { return one(text.Marks(x.t)) }},
		{"Shows", func(x args) ([]any, api.Errno) { return one(text.Shows(x.t, x.marks)) }},
		{"Lone", func(x args) ([]any, api.Errno) { return one(text.Lone(x.t)) }},
		{"Even", func(x args) ([]any, api.Errno) { return two(text.Even(x.t)) }},
		{"Astray", func(x args) ([]any, api.Errno) { return two(text.Astray(x.t, x.reading)) }},
		{"Surest", func(x args) ([]any, api.Errno) { return one(text.Surest(x.t)) }},
		{"Keeps", func(x args) ([]any, api.Errno) { return two(text.Keeps(x.t, x.kept)) }},
		{"Shorter", func(x args) ([]any, api.Errno) { return one(text.Shorter(x.t, x.kept)) }},
		{"Least", func(x args) ([]any, api.Errno) { return one(text.Least(x.t, x.weight)) }},
		{"Spare", func(x args) ([]any, api.Errno) { return one(text.Spare(x.t)) }},
		{"Price", func(x args) ([]any, api.Errno) { return one(text.Price(x.t, x.pence)) }},
	}
}

// zero reports whether all results are; a list without elements is zero, too.
func zero(results []any) bool {
	for _, r := range results {
		v := reflect.ValueOf(r)
		if v.Kind() == reflect.Slice && v.Len() == 0 {
			continue
		}
		if !v.IsZero() {
			return false
		}
	}
	return true
}
