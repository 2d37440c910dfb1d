package fee

import (
	"slices"

	"oyez/api"
)

// fees are those of all criers.
type fees [MaxCriers]int

// with returns the fees if one crier has some pence more.
func (f fees) with(crier, pence int) fees {
	f[crier] += pence
	return f
}

// cry is a round, and the crier who cries it.
type cry struct{ round, crier int }

// work is a box at work: which of two shares is better, by the fees to which they come, and the best fees that can still
// be reached.
type work struct {
	Box
	better  func(one, other fees) bool
	reached map[state]fees
}

// open returns a box at work, or the error of the box.
func open(b Box) (work, api.Errno) {
	if e := Check(b); e != api.OK {
		return work{}, e
	}
	return work{Box: b}, api.OK
}

// openShare is open, with the errors of a share.
func openShare(b Box, share []int) (work, api.Errno) {
	w, e := open(b)
	if e != api.OK {
		return work{}, e
	}
	if len(share) != len(b.Rounds) {
		return work{}, api.ErrCount
	}
	if !all(share, w.isCrier) {
		return work{}, api.ErrAbsent
	}
	if !all(cries(share), w.may) {
		return work{}, api.ErrFalse
	}
	return w, api.OK
}

// all reports whether something is so for each element of a list.
func all[T any](list []T, is func(T) bool) bool {
	for _, x := range list {
		if !is(x) {
			return false
		}
	}
	return true
}

// those returns the elements of a list for which something is so.
func those[T any](list []T, is func(T) bool) []T {
	var some []T
	for _, x := range list {
		if is(x) {
			some = append(some, x)
		}
	}
	return some
}

// numbers returns those from 0 on.
func numbers(many int) []int {
	var list []int
	for n := range many {
		list = append(list, n)
	}
	return list
}

func sum(coins ...int) int {
	total := 0
	for _, n := range coins {
		total += n
	}
	return total
}

func hasTwice(list []int) bool {
	for i, n := range list {
		if slices.Contains(list[:i], n) {
			return true
		}
	}
	return false
}

func between(n, lo, hi int) bool  { return lo <= n && n <= hi }
func isPence(n int) bool          { return between(n, 0, MaxPence) }
func isLate(n int) bool           { return between(n, 0, MaxLate) }
func isPart(n int) bool           { return between(n, 0, MaxCoins) }
func isBalance(n int) bool        { return between(n, -MaxCoins, MaxCoins) }
func (w work) isCrier(n int) bool { return between(n, 0, w.Criers-1) }
func (w work) isRound(n int) bool { return between(n, 0, len(w.Rounds)-1) }
func (w work) may(c cry) bool     { return slices.Contains(w.Rounds[c.round].May, c.crier) }
func (w work) wrongCounts() bool {
	return !between(w.Criers, 1, MaxCriers) || len(w.Rounds) > MaxRounds
}
func (r Round) hasRightNumbers() bool {
	return between(r.Words, 1, MaxWords) && between(r.Stands, 1, MaxStands)
}

// wrongNumbers reports whether some of the pence, or the words or stands of a round, are not allowed.
func (w work) wrongNumbers() bool {
	return !all([]int{w.Word, w.Stand, w.Fine}, isPence) || !all(w.Rounds, Round.hasRightNumbers)
}

// mayError returns the error of those who may cry a round.
func (w work) mayError(criers []int) api.Errno {
	if len(criers) == 0 {
		return api.ErrNone
	}
	if !all(criers, w.isCrier) {
		return api.ErrAbsent
	}
	if !slices.IsSorted(criers) || hasTwice(criers) {
		return api.ErrOrder
	}
	return api.OK
}

func balancesError(balances []int) api.Errno {
	if len(balances) > MaxPeople {
		return api.ErrCount
	}
	if !all(balances, isBalance) {
		return api.ErrRange
	}
	if sum(balances...) != 0 {
		return api.ErrFalse
	}
	return api.OK
}

// cries returns who cries which round in a share.
func cries(share []int) []cry {
	var list []cry
	for round, crier := range share {
		list = append(list, cry{round, crier})
	}
	return list
}

func (w work) fee(round int) int {
	r := w.Rounds[round]
	return r.Stands * (w.Stand + r.Words*w.Word)
}

// fees returns those to which a share comes.
func (w work) fees(share []int) fees {
	var f fees
	for round, crier := range share {
		f = f.with(crier, w.fee(round))
	}
	return f
}

// each returns the fee of each crier of the box.
func (w work) each(f fees) []int { return slices.Clone(f[:w.Criers]) }

func (w work) greatest(f fees) int { return slices.Max(f[:w.Criers]) }

func (w work) spread(f fees) int { return w.greatest(f) - slices.Min(f[:w.Criers]) }

// fined returns what each crier gets of his fee if he was late for so many minutes.
func (w work) fined(full, late []int) []int {
	var got []int
	for crier := range w.Criers {
		got = append(got, max(0, full[crier]-w.Fine*late[crier]))
	}
	return got
}
