package clerk

import (
	"iter"
	"slices"
	"strings"
)

// done is the reply to a line that has nothing else to tell.
const done = "ok"

// lines yields those of a text. A line feed behind the last one begins no further line.
func lines(s string) iter.Seq[string] {
	return func(yield func(string) bool) {
		for s != "" {
			var line string
			line, s, _ = strings.Cut(s, "\n")
			if !yield(line) {
				return
			}
		}
	}
}

// told returns numbers with a blank between each two of them.
func told(numbers ...int) string {
	return strings.Join(words(numbers...), " ")
}

func isThere(word string) bool { return word != "" }

func between(n, lo, hi int) bool { return lo <= n && n <= hi }

// all reports whether something is so for each element of a list.
func all[T any](list []T, is func(T) bool) bool {
	for _, x := range list {
		if !is(x) {
			return false
		}
	}
	return true
}

// each returns what becomes of each element of a list.
func each[T, U any](list []T, becomes func(T) U) []U {
	var l []U
	for _, x := range list {
		l = append(l, becomes(x))
	}
	return l
}

// with returns a list with further elements, which shares no memory with the list.
func with[T any](list []T, more ...T) []T {
	return slices.Concat(list, more)
}

// without returns a list without the elements at some places.
func without[T any](list []T, places []int) []T {
	var l []T
	for n, x := range list {
		if !slices.Contains(places, n) {
			l = append(l, x)
		}
	}
	return l
}
