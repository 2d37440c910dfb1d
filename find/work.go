package find

import (
	"iter"
	"slices"

	"oyez/api"
)

// pair is a lost thing, and a found one.
type pair struct{ lost, found int }

// work is a desk at work: how all things agree, and what a join counts. A join that counts nothing is not made.
type work struct {
	Desk
	agreements [MaxThings][MaxThings]int
	slips      [MaxThings][MaxThings]int
	counts     func(pair) int
	rests      map[state]rest
}

// open returns a desk at work in which joins count their agreement, or the error of the desk.
func open(d Desk) (*work, api.Errno) {
	if e := Check(d); e != api.OK {
		return nil, e
	}
	return atWork(d), api.OK
}

func atWork(d Desk) *work {
	w := &work{Desk: d}
	for _, p := range w.pairs() {
		w.agreements[p.lost][p.found] = w.weighed(p)
		w.slips[p.lost][p.found] = w.slipped(p)
	}
	return w.counting(w.agreement).only(w.can)
}

// openJoined is open, with the errors of joins.
func openJoined(d Desk, joins []int) (*work, api.Errno) {
	w, e := open(d)
	if e != api.OK {
		return nil, e
	}
	if e := w.joinsError(joins); e != api.OK {
		return nil, e
	}
	return w, api.OK
}

// counting returns the desk at work in which joins count something else.
func (w *work) counting(counts func(pair) int) *work {
	other := *w
	other.counts = counts
	other.rests = map[state]rest{}
	return &other
}

// only returns the desk at work in which fewer joins count.
func (w *work) only(is func(pair) bool) *work {
	counts := w.counts
	return w.counting(func(p pair) int {
		if is(p) {
			return counts(p)
		}
		return 0
	})
}

// all reports whether something is so for each element of a list.
func all[T any](list []T, is func(T) bool) bool {
	for _, x := range list {
		if !is(x) {
			return false
		}
	}
	return true
}

// those returns the elements of a list for which something is so.
func those[T any](list []T, is func(T) bool) []T {
	var some []T
	for _, x := range list {
		if is(x) {
			some = append(some, x)
		}
	}
	return some
}

// each returns what belongs to each element of a list.
func each[T any](list []T, of func(T) int) []int {
	var told []int
	for _, x := range list {
		told = append(told, of(x))
	}
	return told
}

func sum(terms ...int) int {
	total := 0
	for _, n := range terms {
		total += n
	}
	return total
}

// numbers returns those from 0 on.
func numbers(many int) []int {
	var list []int
	for n := range many {
		list = append(list, n)
	}
	return list
}

func between(n, lo, hi int) bool      { return lo <= n && n <= hi }
func isWeight(n int) bool             { return between(n, 1, MaxWeight) }
func isReward(n int) bool             { return between(n, 0, MaxReward) }
func isPrice(n int) bool              { return between(n, 0, MaxPrice) }
func isKnown(value int) bool          { return between(value, 0, MaxValue) }
func isValue(value int) bool          { return value == Unknown || isKnown(value) }
func isDescription(values []int) bool { return all(values, isValue) }
func (w *work) isLost(n int) bool     { return between(n, 0, len(w.Lost)-1) }
func (w *work) isFound(n int) bool    { return between(n, 0, len(w.Found)-1) }
func (w *work) isTrait(n int) bool    { return between(n, 0, len(w.Weights)-1) }
func (w *work) isJoin(n int) bool     { return n == None || w.isFound(n) }

// wrongCounts reports whether there are too many traits or things, or no traits, or not all values, or not all rewards.
func (w *work) wrongCounts() bool {
	traits := len(w.Weights)
	if !between(traits, 1, MaxTraits) || len(w.Lost) > MaxThings || len(w.Found) > MaxThings || len(w.Rewards) != len(w.Lost) {
		return true
	}
	full := func(values []int) bool { return len(values) == traits }
	return !all(w.Lost, full) || !all(w.Found, full)
}

func (w *work) wrongNumbers() bool {
	return !all(w.Weights, isWeight) || !between(w.Slips, 0, MaxSlips) || !all(w.Rewards, isReward) ||
		!all(w.Lost, isDescription) || !all(w.Found, isDescription)
}

func (w *work) joinsError(joins []int) api.Errno {
	if len(joins) != len(w.Lost) {
		return api.ErrCount
	}
	if !all(joins, w.isJoin) {
		return api.ErrAbsent
	}
	pairs := joined(joins)
	for i, p := range pairs {
		if slices.ContainsFunc(pairs[:i], func(other pair) bool { return other.found == p.found }) {
			return api.ErrTwice
		}
	}
	if !all(pairs, w.can) {
		return api.ErrFalse
	}
	return api.OK
}

// joined returns the pairs of joins.
func joined(joins []int) []pair {
	var pairs []pair
	for lost, found := range joins {
		if found != None {
			pairs = append(pairs, pair{lost, found})
		}
	}
	return pairs
}

// pairs returns all pairs, in order.
func (w *work) pairs() []pair {
	var pairs []pair
	for lost := range len(w.Lost) {
		for found := range len(w.Found) {
			pairs = append(pairs, pair{lost, found})
		}
	}
	return pairs
}

// weighed returns the weight of all traits in which two things agree.
func (w *work) weighed(p pair) int {
	var weights []int
	for trait := range len(w.Weights) {
		lost, found := w.Lost[p.lost][trait], w.Found[p.found][trait]
		if lost == found && isKnown(lost) {
			weights = append(weights, w.Weights[trait])
		}
	}
	return sum(weights...)
}

// slipped returns in how many traits two things slip.
func (w *work) slipped(p pair) int {
	many := 0
	for trait := range len(w.Weights) {
		lost, found := w.Lost[p.lost][trait], w.Found[p.found][trait]
		if lost != found && isKnown(lost) && isKnown(found) {
			many++
		}
	}
	return many
}

func (w *work) agreement(p pair) int { return w.agreements[p.lost][p.found] }

func (w *work) reward(p pair) int { return w.Rewards[p.lost] }

// can reports whether two things can be joined. No weight is 0, so an agreement is one in some trait.
func (w *work) can(p pair) bool { return w.agreement(p) > 0 && w.slips[p.lost][p.found] <= w.Slips }

// may yields the found things with which a lost one can be joined, in increasing order.
func (w *work) may(lost int) iter.Seq[int] {
	return func(yield func(int) bool) {
		for found := range len(w.Found) {
			if w.counts(pair{lost, found}) > 0 && !yield(found) {
				return
			}
		}
	}
}

// claims returns the lost things that claim a found one.
func (w *work) claims(found int) []int {
	return those(numbers(len(w.Lost)), func(lost int) bool {
		p := pair{lost, found}
		greatest := 0
		for other := range w.may(lost) {
			greatest = max(greatest, w.agreement(pair{lost, other}))
		}
		return w.can(p) && w.agreement(p) == greatest
	})
}

func (w *work) worth(joins []int) int { return sum(each(joined(joins), w.agreement)...) }

func (w *work) rewards(joins []int) int { return sum(each(joined(joins), w.reward)...) }
