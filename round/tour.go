package round

import (
	"iter"
	"slices"

	"oyez/api"
)

// set is some of the pairs: the bit i is for pair i of all.
type set int

// state is at which stand a crier is, and which pairs he has served.
type state struct {
	stand  int
	served set
}

// step is the minute at which a crier has come to a state, and from which state, by which cry.
type step struct {
	minute int
	from   state
	cry    Cry
}

// tours is what a crier can come to on all rounds, each state at the soonest minute.
type tours struct {
	work
	known map[state]step
}

func (w work) all() set { return 1<<len(w.pairs) - 1 }

// setWhere returns the pairs for which something is so.
func (w work) setWhere(is func(Pair) bool) set {
	var s set
	for i, p := range w.pairs {
		if is(p) {
			s |= 1 << i
		}
	}
	return s
}

func (w work) setOf(pairs []Pair) set {
	return w.setWhere(func(p Pair) bool { return slices.Contains(pairs, p) })
}

// setOfNotices returns the pairs of some notices.
func (w work) setOfNotices(notices []int) set {
	return w.setWhere(func(p Pair) bool { return slices.Contains(notices, p.Notice) })
}

// serves returns the pairs that a cry serves which ends at a minute.
func (w work) serves(c Cry, minute int) set {
	return w.setWhere(func(p Pair) bool {
		return p.Notice == c.Notice && w.inTime(p.Notice, minute) && slices.Contains(w.Hears[c.Stand], p.House)
	})
}

// serving yields the cries that serve something more, as the states and steps to which they lead from a state at a minute.
func (w work) serving(at state, minute int) iter.Seq2[state, step] {
	return func(yield func(state, step) bool) {
		for stand := range len(w.Walks) {
			for notice := range len(w.Notices) {
				c := Cry{stand, notice}
				end := w.end(at.stand, minute, c)
				served := at.served | w.serves(c, end)
				if served != at.served && !yield(state{stand, served}, step{end, at, c}) {
					return
				}
			}
		}
	}
}

// tours goes through the sets in increasing order, as each cry that serves something makes the set a greater number.
// Cries that serve nothing are left out: without them the crier is no later anywhere.
func (w work) tours() tours {
	known := map[state]step{{stand: w.Start}: {}}
	for served := range w.all() + 1 {
		for stand := range len(w.Walks) {
			at := state{stand, served}
			came, ok := known[at]
			if !ok {
				continue
			}
			for next, how := range w.serving(at, came.minute) {
				if old, ok := known[next]; !ok || how.minute < old.minute {
					known[next] = how
				}
			}
		}
	}
	return tours{w, known}
}

// first returns the state in which a crier has soonest served all of some pairs, and others perhaps, and the minute; far if he never has.
func (t tours) first(wanted set) (state, int) {
	var first state
	minute := far
	for served := wanted; served <= t.all(); served = (served + 1) | wanted {
		for stand := range len(t.Walks) {
			at := state{stand, served}
			if how, ok := t.known[at]; ok && how.minute < minute {
				first, minute = at, how.minute
			}
		}
	}
	return first, minute
}

// serve reports whether some round serves all of some pairs.
func (t tours) serve(wanted set) bool {
	_, minute := t.first(wanted)
	return minute < far
}

// roundTo returns the round by which a crier comes to a state. It is found from its end.
func (t tours) roundTo(at state) []Cry {
	var round []Cry
	for at.served != 0 {
		how := t.known[at]
		round = append(round, how.cry)
		at = how.from
	}
	slices.Reverse(round)
	return round
}

// lists yields all lists of so many of all elements, in their order, the lists in lexicographic order.
// The next list may be written over the one before.
func lists[T any](all []T, many int) iter.Seq[[]T] {
	return func(yield func([]T) bool) {
		var extend func(list []T, next int) bool
		extend = func(list []T, next int) bool {
			if len(list) == many {
				return yield(list)
			}
			for i := next; i < len(all); i++ {
				if !extend(append(list, all[i]), i+1) {
					return false
				}
			}
			return true
		}
		extend(make([]T, 0, many), 0)
	}
}

// fewestExcluding returns the first of the shortest lists of pairs that exclude each other, or ErrNone.
func (t tours) fewestExcluding() ([]Pair, api.Errno) {
	var found []Pair
	e := api.ErrNone
search:
	for many := 1; many <= len(t.pairs); many++ {
		for list := range lists(t.pairs, many) {
			if !t.serve(t.setOf(list)) {
				found, e = slices.Clone(list), api.OK
				break search
			}
		}
	}
	return found, e
}

// mostNotices returns the first of the longest lists of notices that some round serves.
func (t tours) mostNotices() []int {
	var all []int
	for notice := range len(t.Notices) {
		all = append(all, notice)
	}
	for many := len(all); many > 0; many-- {
		for list := range lists(all, many) {
			if t.serve(t.setOfNotices(list)) {
				return slices.Clone(list)
			}
		}
	}
	return nil
}

// twoCriers returns the first of the lists by which two criers end soonest, and when the later one ends, or ErrNone.
func (t tours) twoCriers() ([]int, int, api.Errno) {
	var best []int
	soonest := far
	for number := range 1 << len(t.Notices) {
		who := digits(number, len(t.Notices))
		if late := t.laterOf(who); late < soonest {
			best, soonest = who, late
		}
	}
	if soonest == far {
		return nil, 0, api.ErrNone
	}
	return best, soonest, api.OK
}

// digits returns so many binary digits of a number, so that the lists of growing numbers are in lexicographic order.
func digits(number, many int) []int {
	list := make([]int, many)
	for i := range many {
		list[i] = number >> (many - 1 - i) & 1
	}
	return list
}

// laterOf returns the minute at which the later one of two criers ends who share the notices; far if one of them cannot serve his.
func (t tours) laterOf(who []int) int {
	var notices [2][]int
	for notice, crier := range who {
		notices[crier] = append(notices[crier], notice)
	}
	_, one := t.first(t.setOfNotices(notices[0]))
	_, other := t.first(t.setOfNotices(notices[1]))
	return max(one, other)
}
