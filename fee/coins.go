package fee

import (
	"cmp"
	"slices"
)

// divided returns how many of some coins each of some people gets by their parts, which are not all 0.
func divided(coins int, parts []int) []int {
	whole := sum(parts...)
	var got []int
	for _, part := range parts {
		got = append(got, coins*part/whole)
	}
	people := numbers(len(parts))
	slices.SortStableFunc(people, func(a, b int) int {
		return cmp.Compare(coins*parts[b]%whole, coins*parts[a]%whole)
	})
	for _, person := range people[:coins-sum(got...)] {
		got[person]++
	}
	return got
}

// groups returns as many groups as can be. People are put into them in order, each one into one of those before him, or
// into a new one.
func groups(balances []int) [][]int {
	people := those(numbers(len(balances)), func(person int) bool { return balances[person] != 0 })
	balanced := func(group []int) bool { return sum(balancesOf(balances, group)...) == 0 }
	var most [][]int
	var put func(made [][]int, left []int)
	put = func(made [][]int, left []int) {
		if len(left) == 0 {
			if len(made) > len(most) && all(made, balanced) {
				most = copied(made)
			}
			return
		}
		for i, group := range made {
			made[i] = append(group, left[0])
			put(made, left[1:])
			made[i] = group
		}
		put(append(made, []int{left[0]}), left[1:])
	}
	put(nil, people)
	return most
}

func balancesOf(balances, people []int) []int {
	var some []int
	for _, person := range people {
		some = append(some, balances[person])
	}
	return some
}

func copied(lists [][]int) [][]int {
	var same [][]int
	for _, l := range lists {
		same = append(same, slices.Clone(l))
	}
	return same
}

// paid returns payments that clear the balances of a group. Each of them clears that of one of the people, and the last
// one those of two.
func paid(balances, group []int) []Payment {
	left := slices.Clone(balances)
	owes := func(person int) bool { return left[person] < 0 }
	isOwed := func(person int) bool { return left[person] > 0 }
	var payments []Payment
	for slices.ContainsFunc(group, owes) {
		from, to := those(group, owes)[0], those(group, isOwed)[0]
		coins := min(-left[from], left[to])
		left[from] += coins
		left[to] -= coins
		payments = append(payments, Payment{from, to, coins})
	}
	return payments
}

// clears reports whether payments clear balances.
func clears(balances []int, payments []Payment) bool {
	isPerson := func(n int) bool { return between(n, 0, len(balances)-1) }
	isPayment := func(p Payment) bool {
		return isPerson(p.From) && isPerson(p.To) && p.From != p.To && between(p.Coins, 1, MaxPaid)
	}
	if !all(payments, isPayment) {
		return false
	}
	left := slices.Clone(balances)
	for _, p := range payments {
		left[p.From] += p.Coins
		left[p.To] -= p.Coins
	}
	return all(left, func(n int) bool { return n == 0 })
}
