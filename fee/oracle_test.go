package fee_test

import (
	"math/rand"
	"reflect"
	"slices"
	"testing"

	"oyez/api"
	"oyez/fee"
)

// The tests call exported functions only, and hold their results against what this file finds out by going through all shares, all lists of rounds and all groups.

func list(n ...int) []int { return n }

func lists(l ...[]int) [][]int { return l }

// harbour is the box of the examples.
func harbour() fee.Box {
	return fee.Box{Criers: 2, Word: 1, Stand: 2, Fine: 2, Rounds: []fee.Round{
		{Words: 4, Stands: 2, May: list(0, 1)},
		{Words: 3, Stands: 1, May: list(0, 1)},
		{Words: 8, Stands: 1, May: list(0, 1)},
		{Words: 1, Stands: 1, May: list(1)},
	}}
}

// changed returns the box of the examples with a change.
func changed(change func(b *fee.Box)) fee.Box {
	b := harbour()
	change(&b)
	return b
}

// open returns a box whose rounds have these fees, from 1 to 9, and may be cried by all.
func open(criers int, fees ...int) fee.Box {
	b := fee.Box{Criers: criers, Word: 1}
	for _, n := range fees {
		b.Rounds = append(b.Rounds, fee.Round{Words: n, Stands: 1, May: numbers(criers)})
	}
	return b
}

// free returns a box whose rounds cost nothing, and may be cried by all.
func free(criers, rounds int) fee.Box {
	b := open(criers, slices.Repeat(list(1), rounds)...)
	b.Word = 0
	return b
}

// held returns a box in which each round may be cried by some criers alone.
func held(b fee.Box, may ...[]int) fee.Box {
	b = clone(b)
	for round, criers := range may {
		b.Rounds[round].May = criers
	}
	return b
}

// largest is the box with the greatest fees.
func largest() fee.Box {
	b := fee.Box{Criers: fee.MaxCriers, Word: fee.MaxPence, Stand: fee.MaxPence, Fine: fee.MaxPence}
	for range fee.MaxRounds {
		b.Rounds = append(b.Rounds, fee.Round{Words: fee.MaxWords, Stands: fee.MaxStands, May: numbers(fee.MaxCriers)})
	}
	return b
}

// clone returns a box that shares no memory with another one.
func clone(b fee.Box) fee.Box {
	b.Rounds = slices.Clone(b.Rounds)
	for i := range b.Rounds {
		b.Rounds[i].May = slices.Clone(b.Rounds[i].May)
	}
	return b
}

func numbers(many int) []int {
	var l []int
	for n := range many {
		l = append(l, n)
	}
	return l
}

func sum(list ...int) int {
	n := 0
	for _, x := range list {
		n += x
	}
	return n
}

// elements returns those of a set of numbers.
func elements(set int) []int {
	var l []int
	for n := range 20 {
		if set&(1<<n) != 0 {
			l = append(l, n)
		}
	}
	return l
}

// bySize returns all lists of numbers below another one, the shorter ones first, and then in lexicographic order.
func bySize(below int) [][]int {
	var all [][]int
	for set := range 1 << below {
		all = append(all, elements(set))
	}
	slices.SortFunc(all, func(a, b []int) int {
		if len(a) != len(b) {
			return len(a) - len(b)
		}
		return slices.Compare(a, b)
	})
	return all
}

// feeOf returns the fee of a round, stand by stand and word by word.
func feeOf(b fee.Box, round int) int {
	pence := 0
	for range b.Rounds[round].Stands {
		pence += b.Stand
		for range b.Rounds[round].Words {
			pence += b.Word
		}
	}
	return pence
}

// feesOf returns the fee of each crier.
func feesOf(b fee.Box, share []int) []int {
	fees := make([]int, b.Criers)
	for round, crier := range share {
		fees[crier] += feeOf(b, round)
	}
	return fees
}

func spreadOf(b fee.Box, share []int) int {
	fees := feesOf(b, share)
	return slices.Max(fees) - slices.Min(fees)
}

func greatestOf(b fee.Box, share []int) int { return slices.Max(feesOf(b, share)) }

// isShare reports whether a list is a share of a box.
func isShare(b fee.Box, share []int) bool {
	for round, crier := range share {
		if !slices.Contains(b.Rounds[round].May, crier) {
			return false
		}
	}
	return len(share) == len(b.Rounds)
}

// given returns a share after a round was given to a crier.
func given(share []int, round, crier int) []int {
	share = slices.Clone(share)
	share[round] = crier
	return share
}

// movesOf returns the moves that even, by the shares to which they come.
func movesOf(b fee.Box, share []int) []fee.Move {
	var all []fee.Move
	for round, from := range share {
		for _, to := range numbers(b.Criers) {
			other := given(share, round, to)
			if to != from && isShare(b, other) && feesOf(b, other)[to] < feesOf(b, share)[from] {
				all = append(all, fee.Move{Round: round, To: to})
			}
		}
	}
	return all
}

// swapsOf returns the swaps that even, by the shares to which they come.
func swapsOf(b fee.Box, share []int) []fee.Swap {
	var all []fee.Swap
	for _, l := range bySize(len(share)) {
		if len(l) != 2 || share[l[0]] == share[l[1]] {
			continue
		}
		x, y := share[l[0]], share[l[1]]
		other := given(given(share, l[0], y), l[1], x)
		if !isShare(b, other) {
			continue
		}
		before, after := feesOf(b, share), feesOf(b, other)
		if max(after[x], after[y]) < max(before[x], before[y]) {
			all = append(all, fee.Swap{A: l[0], B: l[1]})
		}
	}
	return all
}

// settledOf makes the first move that evens, again and again.
func settledOf(b fee.Box, share []int) ([]int, int) {
	for many := 0; ; many++ {
		moves := movesOf(b, share)
		if len(moves) == 0 {
			return share, many
		}
		share = given(share, moves[0].Round, moves[0].To)
	}
}

// allShares returns all shares, in lexicographic order.
func allShares(b fee.Box) [][]int {
	all := lists(nil)
	for _, r := range b.Rounds {
		var more [][]int
		for _, share := range all {
			for _, crier := range r.May {
				more = append(more, append(slices.Clone(share), crier))
			}
		}
		all = more
	}
	return all
}

// leastOf returns the first share for which something is least, and what this is.
func leastOf(b fee.Box, of func(fee.Box, []int) int) ([]int, int) {
	all := allShares(b)
	best, least := all[0], of(b, all[0])
	for _, share := range all[1:] {
		if n := of(b, share); n < least {
			best, least = share, n
		}
	}
	return best, least
}

// boundOf returns the least number of pence that are enough if each crier who may cry one of some rounds gets so many.
func boundOf(b fee.Box, rounds []int) int {
	criers := map[int]bool{}
	pence := 0
	for _, round := range rounds {
		pence += feeOf(b, round)
		for _, crier := range b.Rounds[round].May {
			criers[crier] = true
		}
	}
	bound := 0
	for bound*len(criers) < pence {
		bound++
	}
	return bound
}

// boundMostOf returns the first list of rounds with the greatest bound.
func boundMostOf(b fee.Box) ([]int, int) {
	var best []int
	most := 0
	for _, rounds := range bySize(len(b.Rounds)) {
		if n := boundOf(b, rounds); n > most {
			best, most = rounds, n
		}
	}
	return best, most
}

// isDivided reports whether coins are divided as they must be: of two people, the one with the greater remainder, or the
// first one of those with the same, has one coin more sooner than the other one.
func isDivided(coins int, parts, got []int) bool {
	if len(got) != len(parts) || sum(got...) != coins {
		return false
	}
	whole := sum(parts...)
	more := func(i int) int { return got[i] - coins*parts[i]/whole }
	for i := range parts {
		if more(i) != 0 && more(i) != 1 {
			return false
		}
		for j := range parts {
			a, b := coins*parts[i]%whole, coins*parts[j]%whole
			if (a > b || a == b && i < j) && more(i) < more(j) {
				return false
			}
		}
	}
	return true
}

// indebted returns the people whose balance is not 0.
func indebted(balances []int) []int {
	var some []int
	for person, n := range balances {
		if n != 0 {
			some = append(some, person)
		}
	}
	return some
}

// mostGroups returns how many groups there can be, of each set of people by its smaller sets.
func mostGroups(balances []int) int {
	most := make([]int, 1<<len(balances))
	for set := range most {
		total := 0
		for _, person := range elements(set) {
			total += balances[person]
			most[set] = max(most[set], most[set&^(1<<person)])
		}
		if total == 0 && set != 0 {
			most[set]++
		}
	}
	all := 0
	for _, person := range indebted(balances) {
		all |= 1 << person
	}
	return most[all]
}

// areGroups reports whether groups are, of all people whose balance is not 0, and in order.
func areGroups(balances []int, groups [][]int) bool {
	var all []int
	for i, group := range groups {
		total := 0
		for _, person := range group {
			total += balances[person]
		}
		if len(group) == 0 || total != 0 || !slices.IsSorted(group) || i > 0 && groups[i-1][0] >= group[0] {
			return false
		}
		all = append(all, group...)
	}
	slices.Sort(all)
	return slices.Equal(all, indebted(balances))
}

// areCleared reports whether payments clear balances, person by person.
func areCleared(balances []int, payments []fee.Payment) bool {
	for _, p := range payments {
		if min(p.From, p.To) < 0 || max(p.From, p.To) >= len(balances) || p.From == p.To || p.Coins < 1 || p.Coins > 1000000 {
			return false
		}
	}
	for person, n := range balances {
		for _, p := range payments {
			if p.From == person {
				n += p.Coins
			}
			if p.To == person {
				n -= p.Coins
			}
		}
		if n != 0 {
			return false
		}
	}
	return true
}

// up returns a number from 0 to n, a greater one more often.
func up(r *rand.Rand, n int) int { return max(r.Intn(n+1), r.Intn(n+1)) }

// someCriers returns some of so many, at least one, in order.
func someCriers(r *rand.Rand, many, often int) []int {
	var l []int
	for crier := range many {
		if r.Intn(8) < often {
			l = append(l, crier)
		}
	}
	if len(l) == 0 {
		l = list(r.Intn(many))
	}
	return l
}

// someBox returns a box with so many rounds at most. Of small pence more fees are the same.
func someBox(r *rand.Rand, rounds int) fee.Box {
	pence := 1 + r.Intn(fee.MaxPence)
	if r.Intn(2) == 0 {
		pence = 1
	}
	b := fee.Box{Criers: 1 + up(r, fee.MaxCriers-1), Word: r.Intn(pence + 1), Stand: r.Intn(pence + 1), Fine: r.Intn(pence + 1)}
	words, stands, often := 1+r.Intn(fee.MaxWords), 1+r.Intn(fee.MaxStands), 2+r.Intn(7)
	for range up(r, rounds) {
		b.Rounds = append(b.Rounds, fee.Round{Words: 1 + r.Intn(words), Stands: 1 + r.Intn(stands), May: someCriers(r, b.Criers, often)})
	}
	return b
}

// someShare returns one of a box.
func someShare(r *rand.Rand, b fee.Box) []int {
	var share []int
	for _, x := range b.Rounds {
		share = append(share, x.May[r.Intn(len(x.May))])
	}
	return share
}

// someRounds returns some of a box, in any order.
func someRounds(r *rand.Rand, b fee.Box) []int {
	return r.Perm(len(b.Rounds))[:r.Intn(len(b.Rounds)+1)]
}

// someBoxes calls a function with boxes, always the same ones.
func someBoxes(t *testing.T, n, rounds int, check func(r *rand.Rand, b fee.Box)) {
	t.Helper()
	r := rand.New(rand.NewSource(8))
	for range n {
		b := someBox(r, rounds)
		check(r, b)
		if t.Failed() {
			t.Fatalf("at the box %+v", b)
		}
	}
}

// someDebts returns balances of people of whom some owe others coins. Of small debts, or such of two people alone, there
// are more groups.
func someDebts(r *rand.Rand) []int {
	balances := make([]int, up(r, fee.MaxPeople))
	most := list(1, 2, 5, 20, fee.MaxCoins)[r.Intn(5)]
	inPairs := r.Intn(3) == 0
	for range 2 * len(balances) {
		x, y, coins := r.Intn(len(balances)), r.Intn(len(balances)), r.Intn(most+1)
		if inPairs {
			y = min(x^1, len(balances)-1)
		}
		if balances[x]+coins <= fee.MaxCoins && balances[y]-coins >= -fee.MaxCoins {
			balances[x] += coins
			balances[y] -= coins
		}
	}
	r.Shuffle(len(balances), func(i, j int) { balances[i], balances[j] = balances[j], balances[i] })
	return balances
}

// someBalances calls a function with balances, always the same ones.
func someBalances(t *testing.T, n int, check func(r *rand.Rand, balances []int)) {
	t.Helper()
	r := rand.New(rand.NewSource(88))
	for range n {
		balances := someDebts(r)
		check(r, balances)
		if t.Failed() {
			t.Fatal("at the balances", balances)
		}
	}
}

// args are what a call is given; each call takes what it needs of them.
type args struct {
	b                   fee.Box
	round               int
	share, late, rounds []int
	coins               int
	parts, balances     []int
	payments            []fee.Payment
}

// good returns arguments with which each call is right, and has a result that is not zero.
func good() args {
	return args{
		harbour(), 3, list(1, 1, 0, 1), list(4, 10), list(0, 3),
		10, list(5, 3, 1), list(5, -2, -3, 4, -4),
		[]fee.Payment{{From: 1, To: 0, Coins: 2}, {From: 2, To: 0, Coins: 3}, {From: 4, To: 3, Coins: 4}},
	}
}

func (x args) clone() args {
	x.b = clone(x.b)
	x.share, x.late, x.rounds = slices.Clone(x.share), slices.Clone(x.late), slices.Clone(x.rounds)
	x.parts, x.balances, x.payments = slices.Clone(x.parts), slices.Clone(x.balances), slices.Clone(x.payments)
	return x
}

// call is one of the functions, with its results beside the error.
type call struct {
	name string
	do   func(args) ([]any, api.Errno)
}

func one[T any](v T, e api.Errno) ([]any, api.Errno) { return []any{v}, e }

func two[S, T any](v S, x T, e api.Errno) ([]any, api.Errno) { return []any{v, x}, e }

func calls() []call {
	return []call{
		{"Check", func(x args) ([]any, api.Errno) { return nil, fee.Check(x.b) }},
		{"Fee", func(x args) ([]any, api.Errno) { return one(fee.Fee(x.b, x.round)) }},
		{"Fees", func(x args) ([]any, api.Errno) { return one(fee.Fees(x.b, x.share)) }},
		{"Spread", func(x args) ([]any, api.Errno) { return one(fee.Spread(x.b, x.share)) }},
		{"Moves", func(x args) ([]any, api.Errno) { return one(fee.Moves(x.b, x.share)) }},
		{"Swaps", func(x args) ([]any, api.Errno) { return one(fee.Swaps(x.b, x.share)) }},
		{"Settle", func(x args) ([]any, api.Errno) { return two(fee.Settle(x.b, x.share)) }},
		{"Best", func(x args) ([]any, api.Errno) { return two(fee.Best(x.b)) }},
		{"Closest", func(x args) ([]any, api.Errno) { return two(fee.Closest(x.b)) }},
		{"Bound", func(x args) ([]any, api.Errno) { return one(fee.Bound(x.b, x.rounds)) }},
		{"Greatest", func(x args) ([]any, api.Errno) { return two(fee.Greatest(x.b)) }},
		{"Fines", func(x args) ([]any, api.Errno) { return two(fee.Fines(x.b, x.share, x.late)) }},
		{"Divide", func(x args) ([]any, api.Errno) { return one(fee.Divide(x.coins, x.parts)) }},
		{"Clear", func(x args) ([]any, api.Errno) { return one(fee.Clear(x.balances)) }},
		{"Clears", func(x args) ([]any, api.Errno) { return one(fee.Clears(x.balances, x.payments)) }},
		{"Groups", func(x args) ([]any, api.Errno) { return one(fee.Groups(x.balances)) }},
	}
}

// zero reports whether all results are; a list without elements is zero, too.
func zero(results []any) bool {
	for _, r := range results {
		v := reflect.ValueOf(r)
		if !v.IsZero() && !(v.Kind() == reflect.Slice && v.Len() == 0) {
			return false
		}
	}
	return true
}
