package find

import (
	"iter"
	"slices"
)

// state is how far joins have come: which lost thing is next, and the set of the found things that are joined.
type state struct{ next, taken int }

// then returns the state when the next lost thing is joined with a found one, or with None.
func (s state) then(found int) state {
	s.next++
	if found != None {
		s.taken |= 1 << found
	}
	return s
}

func (s state) has(found int) bool { return s.taken>>found&1 == 1 }

// rest is the most that all further joins can count together, and in how many ways they do.
type rest struct{ most, ways int }

// or returns what the better one of two rests comes to, or both if they are as good.
func (r rest) or(other rest) rest {
	if other.most == r.most {
		r.ways += other.ways
	} else if other.most > r.most {
		r = other
	}
	return r
}

// steps yields None, and the found things with which the next lost thing can be joined and that are free.
func (w *work) steps(s state) iter.Seq[int] {
	return func(yield func(int) bool) {
		if !yield(None) {
			return
		}
		for found := range w.may(s.next) {
			if !s.has(found) && !yield(found) {
				return
			}
		}
	}
}

// left returns the rest from a state on.
func (w *work) left(s state) rest {
	if s.next == len(w.Lost) {
		return rest{0, 1}
	}
	if r, known := w.rests[s]; known {
		return r
	}
	var r rest
	for found := range w.steps(s) {
		r = r.or(w.behind(s, found))
	}
	w.rests[s] = r
	return r
}

// behind returns the rest from a state on if a step is taken.
func (w *work) behind(s state, found int) rest {
	r := w.left(s.then(found))
	if found != None {
		r.most += w.counts(pair{s.next, found})
	}
	return r
}

// most returns what best joins count.
func (w *work) most() int { return w.left(state{}).most }

// count returns how many best joins there are.
func (w *work) count() int { return w.left(state{}).ways }

// best returns best joins.
func (w *work) best() []int {
	var joins []int
	var s state
	for range len(w.Lost) {
		found := w.bestStep(s)
		joins = append(joins, found)
		s = s.then(found)
	}
	return joins
}

func (w *work) bestStep(s state) int {
	most := w.left(s).most
	best := None
	for found := range w.steps(s) {
		if w.behind(s, found).most == most {
			best = found
		}
	}
	return best
}

// agreementThenReward counts for a join its agreement, and less than any agreement all rewards together.
func (w *work) agreementThenReward(p pair) int {
	return w.agreement(p)*(MaxThings*MaxReward+1) + w.reward(p)
}

// changed yields all joins that are otherwise than others for so many lost things at most. The next ones may be written over those before.
func (w *work) changed(joins []int, many int) iter.Seq[[]int] {
	return func(yield func([]int) bool) {
		other := make([]int, len(joins))
		var extend func(s state, many int) bool
		extend = func(s state, many int) bool {
			if s.next == len(joins) {
				return yield(other)
			}
			for found := range w.steps(s) {
				other[s.next] = found
				more := many
				if found != joins[s.next] {
					more--
				}
				if more >= 0 && !extend(s.then(found), more) {
					return false
				}
			}
			return true
		}
		extend(state{}, many)
	}
}

// change returns joins with a greater worth than others that are not best, with as few changes as can be.
func (w *work) change(joins []int) []int {
	worth := w.worth(joins)
	var better []int
search:
	for many := range len(joins) + 1 {
		for other := range w.changed(joins, many) {
			if w.worth(other) > worth {
				better = slices.Clone(other)
				break search
			}
		}
	}
	return better
}

func (w *work) isSpare(found int) bool {
	return w.only(func(p pair) bool { return p.found != found }).most() == w.most()
}

// fate returns that of a pair, by what best joins are worth with it, and without it.
func (w *work) fate(p pair) Fate {
	others := w.only(func(other pair) bool { return other.lost != p.lost && other.found != p.found })
	if !w.can(p) || w.agreement(p)+others.most() < w.most() {
		return Never
	}
	if w.only(func(other pair) bool { return other != p }).most() < w.most() {
		return Always
	}
	return Open
}

// pricesOfLost returns for each lost thing by how much best joins are worth less without it. No prices that hold and
// are the worth of best joins together have a greater one for any lost thing, and some have all of these at once.
func (w *work) pricesOfLost() []int {
	return each(numbers(len(w.Lost)), func(lost int) int {
		return w.most() - w.only(func(p pair) bool { return p.lost != lost }).most()
	})
}

// pricesOfFound returns the least prices that hold with those of the lost things.
func (w *work) pricesOfFound(lost []int) []int {
	prices := make([]int, len(w.Found))
	for _, p := range those(w.pairs(), w.can) {
		prices[p.found] = max(prices[p.found], w.agreement(p)-lost[p.lost])
	}
	return prices
}

// hold reports whether prices hold.
func (w *work) hold(lost, found []int) bool {
	return all(those(w.pairs(), w.can), func(p pair) bool { return lost[p.lost]+found[p.found] >= w.agreement(p) })
}
