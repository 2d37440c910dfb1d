package book

import (
	"iter"
	"slices"
)

// bears reports whether a complaint is what can be said of its house and its notice.
func (h heard) bears(c Complaint) bool {
	return c == Complaint{c.House, c.Notice, h.has(c.House, c.Notice)}
}

// holding returns the book at work in whose courses all complaints must be true.
func (w work) holding(complaints []Complaint) work {
	return w.only(func(h heard) bool { return all(complaints, h.bears) })
}

func (w work) refutes(c Complaint) bool { return !w.holding([]Complaint{c}).possible() }

func (w work) verdict(house, notice int) Verdict {
	if w.refutes(Complaint{house, notice, false}) {
		return Surely
	}
	if w.refutes(Complaint{house, notice, true}) {
		return Never
	}
	return Perhaps
}

// lists yields all lists of so many of the numbers below another one, in lexicographic order. The next list may be
// written over the one before.
func lists(below, many int) iter.Seq[[]int] {
	return func(yield func([]int) bool) {
		var extend func(list []int, next int) bool
		extend = func(list []int, next int) bool {
			if len(list) == many {
				return yield(list)
			}
			for n := next; n < below; n++ {
				if !extend(append(list, n), n+1) {
					return false
				}
			}
			return true
		}
		extend(make([]int, 0, many), 0)
	}
}

// shortest returns the first of the shortest lists of numbers below another one for which something is so, and whether
// there is one.
func shortest(below int, is func(list []int) bool) ([]int, bool) {
	var found []int
	some := false
search:
	for many := range below + 1 {
		for list := range lists(below, many) {
			if is(list) {
				found, some = slices.Clone(list), true
				break search
			}
		}
	}
	return found, some
}

// fewest returns the fewest complaints so that the others go together.
func (w work) fewest(complaints []Complaint) []int {
	list, _ := shortest(len(complaints), func(list []int) bool {
		return w.holding(without(complaints, list)).possible()
	})
	return list
}

// excludes returns the fewest complaints that exclude each other, if all of them do.
func (w work) excludes(complaints []Complaint) []int {
	list, _ := shortest(len(complaints), func(list []int) bool {
		return !w.holding(chosen(complaints, list)).possible()
	})
	return list
}

func chosen(complaints []Complaint, places []int) []Complaint {
	var some []Complaint
	for _, i := range places {
		some = append(some, complaints[i])
	}
	return some
}

func without(complaints []Complaint, places []int) []Complaint {
	return chosen(complaints, those(numbers(len(complaints)), func(i int) bool { return !slices.Contains(places, i) }))
}

// again returns the book at work in which a notice was cried at some more stands. Cries of other notices do not matter
// to who has heard it, and are left out.
func (w work) again(notice, hour int, stands []int) work {
	b := w.Book
	b.Cries = those(b.Cries, func(c Cry) bool { return c.Notice == notice })
	for _, stand := range stands {
		b.Cries = append(b.Cries, Cry{hour, stand, notice})
	}
	return atWork(b).followed()
}
