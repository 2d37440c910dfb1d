package find_test

import (
	"math/rand"
	"reflect"
	"slices"
	"testing"

	"oyez/api"
	"oyez/find"
)

// The tests call exported functions only, and hold their results against what this file finds out by going through all joins.

const (
	u    = find.Unknown
	none = find.None
)

func list(n ...int) []int { return n }

func lists(l ...[]int) [][]int { return l }

// purse is the desk of the examples, which forgives so many slips.
func purse(slips int) find.Desk {
	return find.Desk{
		Weights: list(5, 3, 2),
		Slips:   slips,
		Lost:    lists(list(1, 1, 1), list(1, 2, u)),
		Found:   lists(list(1, u, u), list(1, 1, u)),
		Rewards: list(10, 40),
	}
}

// clone returns a desk that shares no memory with another one.
func clone(d find.Desk) find.Desk {
	d.Weights, d.Rewards = slices.Clone(d.Weights), slices.Clone(d.Rewards)
	d.Lost, d.Found = cloneLists(d.Lost), cloneLists(d.Found)
	return d
}

func cloneLists(l [][]int) [][]int {
	l = slices.Clone(l)
	for i := range l {
		l[i] = slices.Clone(l[i])
	}
	return l
}

// same reports whether two desks are, where a list that is nil is one without elements.
func same(a, b find.Desk) bool {
	return slices.Equal(a.Weights, b.Weights) && a.Slips == b.Slips && slices.Equal(a.Rewards, b.Rewards) &&
		slices.EqualFunc(a.Lost, b.Lost, slices.Equal) && slices.EqualFunc(a.Found, b.Found, slices.Equal)
}

// without returns a desk that has a found thing less.
func without(d find.Desk, found int) find.Desk {
	d = clone(d)
	d.Found = slices.Delete(d.Found, found, found+1)
	return d
}

// known returns a desk in which a value of a found thing is another one.
func known(d find.Desk, found, trait, value int) find.Desk {
	d = clone(d)
	d.Found[found][trait] = value
	return d
}

// agree returns how two things agree, by the differences of their values.
func agree(d find.Desk, lost, found int) (agreement, slips int, can bool) {
	for trait, weight := range d.Weights {
		a, b := d.Lost[lost][trait], d.Found[found][trait]
		if a < 0 || b < 0 {
			continue
		}
		if a-b == 0 {
			agreement += weight
			can = true
		} else {
			slips++
		}
	}
	return agreement, slips, can && slips <= d.Slips
}

func canJoin(d find.Desk, lost, found int) bool {
	_, _, can := agree(d, lost, found)
	return can
}

// allJoins returns all joins, in any order: found things are given to lost ones, one after the other.
func allJoins(d find.Desk) [][]int {
	all := lists(slices.Repeat(list(none), len(d.Lost)))
	for found := range d.Found {
		for _, joins := range all {
			for lost := range d.Lost {
				if joins[lost] == none && canJoin(d, lost, found) {
					more := slices.Clone(joins)
					more[lost] = found
					all = append(all, more)
				}
			}
		}
	}
	return all
}

func worth(d find.Desk, joins []int) int {
	n := 0
	for lost, found := range joins {
		if found != none {
			agreement, _, _ := agree(d, lost, found)
			n += agreement
		}
	}
	return n
}

func reward(d find.Desk, joins []int) int {
	n := 0
	for lost, found := range joins {
		if found != none {
			n += d.Rewards[lost]
		}
	}
	return n
}

// bestOf returns those of all joins that are best, and their worth.
func bestOf(d find.Desk, all [][]int) ([][]int, int) {
	var best [][]int
	most := 0
	for _, joins := range all {
		n := worth(d, joins)
		if n > most {
			best, most = nil, n
		}
		if n == most {
			best = append(best, joins)
		}
	}
	return best, most
}

func bestJoins(d find.Desk) ([][]int, int) { return bestOf(d, allJoins(d)) }

// isJoins reports whether a list is joins of a desk.
func isJoins(d find.Desk, joins []int) bool {
	taken := map[int]bool{}
	for lost, found := range joins {
		if found == none {
			continue
		}
		if found < 0 || found >= len(d.Found) || taken[found] || !canJoin(d, lost, found) {
			return false
		}
		taken[found] = true
	}
	return len(joins) == len(d.Lost)
}

// changes returns for how many lost things joins are not those of others.
func changes(a, b []int) int {
	n := 0
	for i := range a {
		if a[i] != b[i] {
			n++
		}
	}
	return n
}

// claimed reports whether a lost thing claims a found one.
func claimed(d find.Desk, lost, found int) bool {
	own, _, can := agree(d, lost, found)
	for other := range d.Found {
		if n, _, possible := agree(d, lost, other); possible && n > own {
			return false
		}
	}
	return can
}

// hold reports whether prices do.
func hold(d find.Desk, lost, found []int) bool {
	for i := range d.Lost {
		for j := range d.Found {
			if n, _, can := agree(d, i, j); can && lost[i]+found[j] < n {
				return false
			}
		}
	}
	return true
}

func sum(list ...int) int {
	n := 0
	for _, x := range list {
		n += x
	}
	return n
}

// blanks returns the found things and traits whose values are not known, in order.
func blanks(d find.Desk) [][2]int {
	var all [][2]int
	for found, values := range d.Found {
		for trait, value := range values {
			if value == u {
				all = append(all, [2]int{found, trait})
			}
		}
	}
	return all
}

// sizes is how many traits and things of either kind desks have at most, and how many joins.
type sizes struct{ traits, things, joins int }

var (
	small   = sizes{3, 4, 100}
	largest = sizes{find.MaxTraits, find.MaxThings, 1 << 62}
)

// up returns a number from 0 to n, a greater one more often.
func up(r *rand.Rand, n int) int { return max(r.Intn(n+1), r.Intn(n+1)) }

// someThings returns things whose values are of so many, and unknown so often of 8 times.
func someThings(r *rand.Rand, many, traits, values, unknown int) [][]int {
	var all [][]int
	for range many {
		thing := make([]int, traits)
		for trait := range thing {
			thing[trait] = r.Intn(values)
			if r.Intn(8) < unknown {
				thing[trait] = u
			}
		}
		all = append(all, thing)
	}
	return all
}

// someDesk returns a desk with not too many joins, on which more things are alike if it has fewer values and weights.
func someDesk(r *rand.Rand, most sizes) find.Desk {
	for {
		traits, values, weights := 1+up(r, most.traits-1), 1+up(r, find.MaxValue), 1+r.Intn(find.MaxWeight)
		d := find.Desk{Slips: r.Intn(find.MaxSlips + 1)}
		d.Lost = someThings(r, up(r, most.things), traits, values, r.Intn(5))
		d.Found = someThings(r, up(r, most.things), traits, values, r.Intn(7))
		for range traits {
			d.Weights = append(d.Weights, 1+r.Intn(weights))
		}
		for range d.Lost {
			d.Rewards = append(d.Rewards, r.Intn(find.MaxReward+1))
		}
		if len(allJoins(d)) <= most.joins {
			return d
		}
	}
}

// someDesks calls a function with desks, always the same ones.
func someDesks(t *testing.T, n int, most sizes, check func(r *rand.Rand, d find.Desk)) {
	t.Helper()
	r := rand.New(rand.NewSource(6))
	for range n {
		d := someDesk(r, most)
		check(r, d)
		if t.Failed() {
			t.Fatalf("at the desk %+v", d)
		}
	}
}

// alike returns the largest desk, on which each lost thing can be joined with each found one. It forgives no slip, and of each thing only some values are known.
func alike() find.Desk {
	d := find.Desk{Weights: list(1, 2, 3, 4, 5), Rewards: list(1, 2, 3, 4, 5, 99)}
	for range find.MaxThings {
		d.Lost = append(d.Lost, list(0, 0, 0, 0, 0))
		d.Found = append(d.Found, list(0, u, u, u, u))
	}
	return d
}

// args are what a call is given; each call takes what it needs of them.
type args struct {
	d                         find.Desk
	lost, found, trait, value int
	joins, ofLost, ofFound    []int
}

// good returns arguments with which each call is right.
func good() args { return args{purse(0), 0, 0, 1, 2, list(0, none), list(3, 0), list(5, 5)} }

func (x args) clone() args {
	x.d = clone(x.d)
	x.joins, x.ofLost, x.ofFound = slices.Clone(x.joins), slices.Clone(x.ofLost), slices.Clone(x.ofFound)
	return x
}

// call is one of the functions, with its results beside the error.
type call struct {
	name string
	do   func(args) ([]any, api.Errno)
}

func one[T any](v T, e api.Errno) ([]any, api.Errno) { return []any{v}, e }

func two[S, T any](v S, x T, e api.Errno) ([]any, api.Errno) { return []any{v, x}, e }

func three[S, T, U any](v S, x T, y U, e api.Errno) ([]any, api.Errno) { return []any{v, x, y}, e }

func calls() []call {
	return []call{
		{"Check", func(x args) ([]any, api.Errno) { return nil, find.Check(x.d) }},
		{"Agree", func(x args) ([]any, api.Errno) { return three(find.Agree(x.d, x.lost, x.found)) }},
		{"May", func(x args) ([]any, api.Errno) { return one(find.May(x.d, x.lost)) }},
		{"Claims", func(x args) ([]any, api.Errno) { return one(find.Claims(x.d, x.found)) }},
		{"Contests", func(x args) ([]any, api.Errno) { return one(find.Contests(x.d)) }},
		{"Worth", func(x args) ([]any, api.Errno) { return one(find.Worth(x.d, x.joins)) }},
		{"Reward", func(x args) ([]any, api.Errno) { return one(find.Reward(x.d, x.joins)) }},
		{"Best", func(x args) ([]any, api.Errno) { return two(find.Best(x.d)) }},
		{"Richest", func(x args) ([]any, api.Errno) { return two(find.Richest(x.d)) }},
		{"Count", func(x args) ([]any, api.Errno) { return one(find.Count(x.d)) }},
		{"Prices", func(x args) ([]any, api.Errno) { return two(find.Prices(x.d)) }},
		{"Shows", func(x args) ([]any, api.Errno) { return one(find.Shows(x.d, x.ofLost, x.ofFound)) }},
		{"Change", func(x args) ([]any, api.Errno) { return one(find.Change(x.d, x.joins)) }},
		{"Fates", func(x args) ([]any, api.Errno) { return one(find.Fates(x.d, x.lost, x.found)) }},
		{"Spare", func(x args) ([]any, api.Errno) { return one(find.Spare(x.d)) }},
		{"With", func(x args) ([]any, api.Errno) { return one(find.With(x.d, x.found, x.trait, x.value)) }},
		{"Ask", func(x args) ([]any, api.Errno) { return three(find.Ask(x.d)) }},
	}
}

// zero reports whether all results are; a list without elements is zero, too.
func zero(results []any) bool {
	for _, r := range results {
		v := reflect.ValueOf(r)
		if !v.IsZero() && !(v.Kind() == reflect.Slice && v.Len() == 0) {
			return false
		}
	}
	return true
}
