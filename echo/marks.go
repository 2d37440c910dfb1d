package echo

import (
	"iter"
	"slices"
)

// table has a mark for how many words were heard, and for how many words of both texts.
type table [MaxHeard + 1][MaxWords + 1][MaxWords + 1]int

func (t *table) at(heard int, f far) int { return t[heard][f[OfA]][f[OfB]] }

// laid returns the table of marks.
func laid(marks [][][]int) table {
	var t table
	for heard, lists := range marks {
		for a, list := range lists {
			copy(t[heard][a][:], list)
		}
	}
	return t
}

// spots yields all places of marks, those with fewer words first.
func (w work) spots() iter.Seq2[int, far] {
	return func(yield func(int, far) bool) {
		for heard := range len(w.Heard) + 1 {
			for a := range len(w.texts[OfA]) + 1 {
				for b := range len(w.texts[OfB]) + 1 {
					if !yield(heard, far{OfA: a, OfB: b}) {
						return
					}
				}
			}
		}
	}
}

// limit returns the greatest mark that holds beside those with fewer words.
func (w work) limit(t *table, heard int, f far) int {
	if heard == 0 && f == (far{}) {
		return 0
	}
	limit := MaxMark
	if heard > 0 {
		limit = min(limit, t.at(heard-1, f)+1)
	}
	for side := OfA; side <= OfB; side++ {
		if f[side] == 0 {
			continue
		}
		less := f.before(Place{side, f[side] - 1})
		limit = min(limit, t.at(heard, less)+1)
		if heard > 0 && w.Heard[heard-1] == w.texts[side][less[side]] {
			limit = min(limit, t.at(heard-1, less))
		}
	}
	return limit
}

// found returns the least faults of so many words that were heard and so many words of both texts. They are the greatest
// marks that hold.
func (w work) found() table {
	var t table
	for heard, f := range w.spots() {
		t[heard][f[OfA]][f[OfB]] = w.limit(&t, heard, f)
	}
	return t
}

// holds reports whether marks do.
func (w work) holds(t *table) bool {
	for heard, f := range w.spots() {
		if t.at(heard, f) > w.limit(t, heard, f) {
			return false
		}
	}
	return true
}

// least returns the least faults of both texts.
func (w work) least() int {
	t := w.found()
	return t.at(len(w.Heard), w.end())
}

// marks returns the least faults as marks.
func (w work) marks() [][][]int {
	t := w.found()
	marks := make([][][]int, len(w.Heard)+1)
	for heard := range marks {
		for a := range len(w.texts[OfA]) + 1 {
			marks[heard] = append(marks[heard], slices.Clone(t[heard][a][:len(w.texts[OfB])+1]))
		}
	}
	return marks
}

// areMarks reports whether there is a mark for each place of one, and nothing else.
func (w work) areMarks(marks [][][]int) bool {
	isRow := func(list []int) bool { return len(list) == len(w.texts[OfB])+1 }
	isPlane := func(lists [][]int) bool { return len(lists) == len(w.texts[OfA])+1 && all(lists, isRow) }
	return len(marks) == len(w.Heard)+1 && all(marks, isPlane)
}
