package echo

import (
	"slices"

	"oyez/api"
)

// work is an echo at work: the words of the two texts of a pair, by their sides, and which words that were heard count as
// words of which side.
type work struct {
	Echo
	texts  [Noise][]int
	counts func(heard int, side Side) bool
}

// open returns an echo at work in which all words count, or the error of the echo.
func open(e Echo) (work, api.Errno) {
	if err := Check(e); err != api.OK {
		return work{}, err
	}
	return work{Echo: e, counts: func(int, Side) bool { return true }}, api.OK
}

// openPair is open, with the error of two texts.
func openPair(e Echo, p Pair) (work, api.Errno) {
	w, err := open(e)
	if err != api.OK {
		return work{}, err
	}
	if !all([]int{p.A, p.B}, w.isText) {
		return work{}, api.ErrAbsent
	}
	return w.of(p), api.OK
}

// of returns the echo at work with the two texts of a pair.
func (w work) of(p Pair) work {
	w.texts = [Noise][]int{OfA: w.Texts[p.A], OfB: w.Texts[p.B]}
	return w
}

// only returns the echo at work in which a word that was heard is of one side alone.
func (w work) only(heard int, side Side) work {
	w.counts = func(other int, of Side) bool { return other != heard || of == side }
	return w
}

// compared returns the echo at work in which what was heard are the words of text B, and text A was cried alone. Its faults
// are the distance of both texts.
func (w work) compared() work {
	w.Heard = w.texts[OfB]
	w.texts[OfB] = nil
	return w
}

// all reports whether something is so for each element of a list.
func all[T any](list []T, is func(T) bool) bool {
	for _, x := range list {
		if !is(x) {
			return false
		}
	}
	return true
}

// those returns the elements of a list for which something is so.
func those[T any](list []T, is func(T) bool) []T {
	var some []T
	for _, x := range list {
		if is(x) {
			some = append(some, x)
		}
	}
	return some
}

// without returns a copy of a list in which the elements are left for which something is not so.
func without[T any](list []T, is func(T) bool) []T {
	return slices.DeleteFunc(slices.Clone(list), is)
}

// numbers returns those from 0 on.
func numbers(many int) []int {
	var list []int
	for n := range many {
		list = append(list, n)
	}
	return list
}

// most returns the greatest of several numbers, or 0 of none.
func most(numbers ...int) int {
	greatest := 0
	for _, n := range numbers {
		greatest = max(greatest, n)
	}
	return greatest
}

func between(n, lo, hi int) bool    { return lo <= n && n <= hi }
func isWord(n int) bool             { return between(n, 0, MaxWord) }
func areWords(words []int) bool     { return all(words, isWord) }
func isMark(n int) bool             { return between(n, 0, MaxMark) }
func areAllowed(marks [][]int) bool { return all(slices.Concat(marks...), isMark) }
func (w work) isText(n int) bool    { return between(n, 0, len(w.Texts)-1) }
func hasWords(text []int) bool      { return between(len(text), 1, MaxWords) }
func (w work) wrongCounts() bool {
	return !between(len(w.Texts), 1, MaxTexts) || !all(w.Texts, hasWords) || len(w.Heard) > MaxHeard
}
