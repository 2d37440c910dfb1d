package fee_test

import (
	"fmt"
	"math/rand"
	"slices"
	"testing"

	"oyez/api"
	"oyez/fee"
)

// P8.8 and P0.9

func TestNobodysFeeExceedsThatOfAnotherByMoreThanARound(t *testing.T) {
	unlike := 0
	someBoxes(t, 1500, fee.MaxRounds, func(r *rand.Rand, b fee.Box) {
		settled, many, e := fee.Settle(b, someShare(r, b))
		if !isShare(b, settled) || e != api.OK {
			t.Error(settled, e)
		}
		fees, _ := fee.Fees(b, settled)
		for round, crier := range settled {
			for _, other := range b.Rounds[round].May {
				n, _ := fee.Fee(b, round)
				if fees[crier]-fees[other] > n {
					t.Error(settled, fees, round, other)
				}
				if fees[crier] > fees[other] {
					unlike++
				}
			}
		}
		moves, e := fee.Moves(b, settled)
		again, none, f := fee.Settle(b, settled)
		if len(moves) > 0 || !slices.Equal(again, settled) || none != 0 || e != api.OK || f != api.OK {
			t.Error(settled, many, moves, again, none, e, f)
		}
	})
	if unlike < 500 {
		t.Error("too few fees that are unlike:", unlike)
	}
}

func TestNoShareHasALesserGreatestFeeThanTheBestOneOrThanABound(t *testing.T) {
	proved := 0
	someBoxes(t, 1000, fee.MaxRounds, func(r *rand.Rand, b fee.Box) {
		best, greatest, e := fee.Best(b)
		rounds, bound, f := fee.Greatest(b)
		if n, g := fee.Bound(b, rounds); n != bound || bound > greatest || e != api.OK || f != api.OK || g != api.OK {
			t.Error(rounds, n, bound, greatest, e, f, g)
		}
		if bound == greatest {
			proved++
		}
		_, spread, e := fee.Closest(b)
		if e != api.OK {
			t.Error(e)
		}
		for range 20 {
			share := someShare(r, b)
			fees, _ := fee.Fees(b, share)
			some, _ := fee.Bound(b, someRounds(r, b))
			if n := slices.Max(fees); n < greatest || n < bound || n < some {
				t.Error(share, fees, greatest, bound, some)
			}
			if n, _ := fee.Spread(b, share); n < spread {
				t.Error(share, n, spread)
			}
		}
		if fees, _ := fee.Fees(b, best); slices.Max(fees) != greatest {
			t.Error(best, fees, greatest)
		}
	})
	if proved < 100 {
		t.Error("too few shares that a bound proves to be best:", proved)
	}
}

func TestToSettleABestShareLeavesItsGreatestFee(t *testing.T) {
	moved := 0
	someBoxes(t, 2000, fee.MaxRounds, func(r *rand.Rand, b fee.Box) {
		best, greatest, _ := fee.Best(b)
		settled, many, e := fee.Settle(b, best)
		fees, f := fee.Fees(b, settled)
		if slices.Max(fees) != greatest || e != api.OK || f != api.OK {
			t.Error(best, settled, fees, greatest, e, f)
		}
		if many > 0 {
			moved++
		}
		share := someShare(r, b)
		before, _ := fee.Fees(b, share)
		moves, _ := fee.Moves(b, share)
		for _, m := range moves {
			after, e := fee.Fees(b, given(share, m.Round, m.To))
			if slices.Max(after) > slices.Max(before) || e != api.OK {
				t.Error(share, m, before, after, e)
			}
		}
	})
	if moved < 100 {
		t.Error("too few best shares that are not settled:", moved)
	}
}

func TestSpreadWhereAllMayCryAllRounds(t *testing.T) {
	someBoxes(t, 1000, fee.MaxRounds, func(r *rand.Rand, b fee.Box) {
		b = clone(b)
		most := 0
		for round := range b.Rounds {
			b.Rounds[round].May = numbers(b.Criers)
			most = max(most, feeOf(b, round))
		}
		settled, _, e := fee.Settle(b, someShare(r, b))
		if n, f := fee.Spread(b, settled); n > most || e != api.OK || f != api.OK {
			t.Error(settled, n, most, e, f)
		}
	})
}

func TestSwapsLeaveBothWithLess(t *testing.T) {
	many := 0
	someBoxes(t, 1000, fee.MaxRounds, func(r *rand.Rand, b fee.Box) {
		share := someShare(r, b)
		swaps, _ := fee.Swaps(b, share)
		before, _ := fee.Fees(b, share)
		for _, s := range swaps {
			x, y := share[s.A], share[s.B]
			after, e := fee.Fees(b, given(given(share, s.A, y), s.B, x))
			if x == y || s.A >= s.B || max(after[x], after[y]) >= max(before[x], before[y]) || e != api.OK {
				t.Error(share, s, before, after, e)
			}
			many++
		}
	})
	if many < 100 {
		t.Error("too few swaps:", many)
	}
}

func TestAllCoinsOfABoxAreGivenAway(t *testing.T) {
	r := rand.New(rand.NewSource(80))
	for range 2000 {
		coins, parts := r.Intn(fee.MaxCoins+1), make([]int, 1+r.Intn(fee.MaxPeople))
		for i := range parts {
			parts[i] = 1 + r.Intn(fee.MaxCoins)
		}
		got, e := fee.Divide(coins, parts)
		whole := sum(parts...)
		if sum(got...) != coins || e != api.OK {
			t.Error(coins, parts, got, e)
		}
		for i, n := range got {
			if off := n*whole - coins*parts[i]; off >= whole || off <= -whole {
				t.Error(coins, parts, got, i)
			}
		}
	}
}

func TestPaymentsAreAsManyAsPeopleLessGroups(t *testing.T) {
	someBalances(t, 1500, func(_ *rand.Rand, balances []int) {
		groups, e := fee.Groups(balances)
		payments, f := fee.Clear(balances)
		if is, g := fee.Clears(balances, payments); !is || len(payments) != len(indebted(balances))-len(groups) || e != api.OK || f != api.OK || g != api.OK {
			t.Error(groups, payments, is, e, f, g)
		}
	})
}

// after returns all balances that are left after a payment of at most so many coins between any two people.
func after(balances []int, coins int) [][]int {
	var all [][]int
	for from := range balances {
		for to := range balances {
			for n := 1; n <= coins && from != to; n++ {
				left := slices.Clone(balances)
				left[from] += n
				left[to] -= n
				all = append(all, left)
			}
		}
	}
	return all
}

// fewestPays tries all payments of at most so many coins, and returns how many clear the balances.
func fewestPays(balances []int, coins int) int {
	seen := map[string]bool{}
	zero := make([]int, len(balances))
	for many, now := 0, lists(balances); ; many++ {
		var next [][]int
		for _, left := range now {
			if slices.Equal(left, zero) {
				return many
			}
			if key := fmt.Sprint(left); !seen[key] {
				seen[key] = true
				next = append(next, after(left, coins)...)
			}
		}
		now = next
	}
}

func TestNoFewerPaymentsClear(t *testing.T) {
	for i, x := range []struct {
		balances []int
		want     int
	}{
		{list(0, 0, 0), 0},
		{list(1, -1, 0), 1},
		{list(2, -1, -1), 2},
		{list(1, 2, -3), 2},
		{list(1, -1, 1, -1), 2},
		{list(2, -1, 2, -3), 3},
		{list(3, -1, -1, -1), 3},
		{list(2, 1, -2, -1), 2},
		{list(2, -2, 0, 0), 1},
		{list(3, -2, 0, -1), 2},
	} {
		payments, e := fee.Clear(x.balances)
		if fewest := fewestPays(x.balances, 3); len(payments) != x.want || fewest != x.want || e != api.OK {
			t.Error(i, payments, fewest, e)
		}
	}
}
