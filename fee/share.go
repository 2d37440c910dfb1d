package fee

import (
	"cmp"
	"iter"
	"slices"
)

// moves yields the moves that even, in order.
func (w work) moves(share []int) iter.Seq[Move] {
	return func(yield func(Move) bool) {
		for round := range share {
			for crier := range w.Criers {
				m := Move{round, crier}
				if w.evens(share, m) && !yield(m) {
					return
				}
			}
		}
	}
}

// evens reports whether a move does. None to the crier whose round it is does.
func (w work) evens(share []int, m Move) bool {
	before := w.fees(share)
	return w.may(cry{m.Round, m.To}) && before[m.To]+w.fee(m.Round) < before[share[m.Round]]
}

// behind returns the share behind a move.
func behind(share []int, m Move) []int {
	share = slices.Clone(share)
	share[m.Round] = m.To
	return share
}

// settle makes the first move that evens as long as there is one, and returns the share to which it comes, and how many
// moves these are. Each of them makes the sum of the squares of the fees less, so no share comes again.
func (w work) settle(share []int) ([]int, int) {
	share = slices.Clone(share)
	many := 0
search:
	for {
		for m := range w.moves(share) {
			share = behind(share, m)
			many++
			continue search
		}
		return share, many
	}
}

// swaps returns the swaps that even.
func (w work) swaps(share []int) []Swap {
	var list []Swap
	for a := range share {
		for b := a + 1; b < len(share); b++ {
			if s := (Swap{a, b}); w.exchanges(share, s) {
				list = append(list, s)
			}
		}
	}
	return list
}

// exchanges reports whether a swap evens. None of two rounds of the same crier does.
func (w work) exchanges(share []int, s Swap) bool {
	a, b := share[s.A], share[s.B]
	if !w.may(cry{s.A, b}) || !w.may(cry{s.B, a}) {
		return false
	}
	before, after := w.fees(share), w.fees(behind(behind(share, Move{s.A, b}), Move{s.B, a}))
	return max(after[a], after[b]) < max(before[a], before[b])
}

// state is how far a share has come: which round is next, and the fees of those before.
type state struct {
	next int
	fees fees
}

// preferring returns the box at work with what makes a share better than another one.
func (w work) preferring(better func(one, other fees) bool) work {
	w.better = better
	w.reached = map[state]fees{}
	return w
}

func (w work) lower(one, other fees) bool { return w.greatest(one) < w.greatest(other) }

func (w work) closer(one, other fees) bool { return w.spread(one) < w.spread(other) }

// then returns the state when a crier has cried the next round.
func (w work) then(s state, crier int) state {
	return state{s.next + 1, s.fees.with(crier, w.fee(s.next))}
}

// reach returns the best fees that can be reached from a state on.
func (w work) reach(s state) fees {
	if s.next == len(w.Rounds) {
		return s.fees
	}
	if f, known := w.reached[s]; known {
		return f
	}
	may := w.Rounds[s.next].May
	best := w.reach(w.then(s, may[0]))
	for _, crier := range may[1:] {
		if f := w.reach(w.then(s, crier)); w.better(f, best) {
			best = f
		}
	}
	w.reached[s] = best
	return best
}

// best returns the first one of the best shares.
func (w work) best() []int {
	var share []int
	var s state
	for round := range w.Rounds {
		best := w.reach(s)
		first := slices.IndexFunc(w.Rounds[round].May, func(crier int) bool { return !w.better(best, w.reach(w.then(s, crier))) })
		crier := w.Rounds[round].May[first]
		share = append(share, crier)
		s = w.then(s, crier)
	}
	return share
}

// bound returns that of some rounds.
func (w work) bound(rounds []int) int {
	pence, criers := 0, 0
	for _, round := range rounds {
		pence += w.fee(round)
	}
	for crier := range w.Criers {
		if slices.ContainsFunc(rounds, func(round int) bool { return w.may(cry{round, crier}) }) {
			criers++
		}
	}
	if criers == 0 {
		return 0
	}
	return (pence + criers - 1) / criers
}

// boundMost returns the rounds with the greatest bound.
func (w work) boundMost() []int {
	var best []int
	for set := range 1 << len(w.Rounds) {
		rounds := those(numbers(len(w.Rounds)), func(round int) bool { return set>>round&1 == 1 })
		if w.bindsMore(rounds, best) {
			best = rounds
		}
	}
	return best
}

// bindsMore reports whether some rounds have a greater bound than others, or the same one and come first.
func (w work) bindsMore(rounds, others []int) bool {
	return cmp.Or(
		cmp.Compare(w.bound(rounds), w.bound(others)),
		cmp.Compare(len(others), len(rounds)),
		slices.Compare(others, rounds),
	) > 0
}
