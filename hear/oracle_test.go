package hear_test

import (
	"math/rand"
	"reflect"
	"slices"
	"testing"

	"oyez/api"
	"oyez/hear"
)

// The tests call exported functions only, and hold their results against what this file finds out by trying all.

// far is more than any cry needs.
const far = 1 << 20

var winds = []hear.Dir{hear.Calm, hear.North, hear.East, hear.South, hear.West}

// town makes one of rows of letters: s for a street, h for a house, w for a wall.
func town(rows ...string) hear.Town {
	t := hear.Town{Wide: len(rows[0])}
	for _, row := range rows {
		for _, c := range row {
			t.Plots = append(t.Plots, map[rune]hear.Plot{'s': hear.Street, 'h': hear.House, 'w': hear.Wall}[c])
		}
	}
	return t
}

func row() hear.Town   { return town("shsh") }
func court() hear.Town { return town("hsh", "sws") }

func list(n ...int) []int { return n }

func air(wind hear.Dir, voice int) hear.Air { return hear.Air{Wind: wind, Voice: voice} }

// plots returns the plots of a kind, in increasing order.
func plots(t hear.Town, kind hear.Plot) []int {
	var all []int
	for p, k := range t.Plots {
		if k == kind {
			all = append(all, p)
		}
	}
	return all
}

// stepNeeds returns what a step between two plots needs, or false if there is no such step.
func stepNeeds(t hear.Town, wind hear.Dir, from, to int) (int, bool) {
	for _, p := range []int{from, to} {
		if p < 0 || p >= len(t.Plots) || t.Plots[p] == hear.Wall {
			return 0, false
		}
	}
	var goes, other hear.Dir
	sameRow := from/t.Wide == to/t.Wide
	switch {
	case to == from-t.Wide:
		goes, other = hear.North, hear.South
	case to == from+t.Wide:
		goes, other = hear.South, hear.North
	case sameRow && to == from+1:
		goes, other = hear.East, hear.West
	case sameRow && to == from-1:
		goes, other = hear.West, hear.East
	default:
		return 0, false
	}
	n := map[hear.Dir]int{goes: 1, other: 4}[wind]
	if n == 0 {
		n = 2
	}
	if t.Plots[to] == hear.House {
		n++
	}
	return n, true
}

// wayNeeds returns what a way of the voice needs, or false if it is none.
func wayNeeds(t hear.Town, wind hear.Dir, way []int) (int, bool) {
	if len(way) == 0 || way[0] < 0 || way[0] >= len(t.Plots) || t.Plots[way[0]] != hear.Street {
		return 0, false
	}
	total := 0
	for i := 1; i < len(way); i++ {
		n, ok := stepNeeds(t, wind, way[i-1], way[i])
		if !ok {
			return 0, false
		}
		total += n
	}
	return total, true
}

// loudness returns what a cry needs between all plots that are no walls; far if there is no way.
func loudness(t hear.Town, wind hear.Dir) [][]int {
	n := len(t.Plots)
	need := make([][]int, n)
	for a := range n {
		need[a] = make([]int, n)
		for b := range n {
			need[a][b] = far
			if k, ok := stepNeeds(t, wind, a, b); ok {
				need[a][b] = k
			}
		}
		need[a][a] = 0
	}
	for by := range n {
		for a := range n {
			for b := range n {
				need[a][b] = min(need[a][b], need[a][by]+need[by][b])
			}
		}
	}
	return need
}

// combinations yields the lists of k elements of all, in lexicographic order.
func combinations(all []int, k int, yield func([]int) bool) bool {
	var pick func(from int, taken []int) bool
	pick = func(from int, taken []int) bool {
		if len(taken) == k {
			return yield(slices.Clone(taken))
		}
		for i := from; i < len(all); i++ {
			if !pick(i+1, append(slices.Clone(taken), all[i])) {
				return false
			}
		}
		return true
	}
	return pick(0, nil)
}

// served returns how many of the houses hear at least one of the stands.
func served(need [][]int, voice int, stands, houses []int) int {
	n := 0
	for _, h := range houses {
		if slices.ContainsFunc(stands, func(s int) bool { return need[s][h] <= voice }) {
			n++
		}
	}
	return n
}

// bestStands returns the first of the shortest lists of at most so many stands that serve most.
func bestStands(need [][]int, voice int, streets, houses []int, stands int) ([]int, int) {
	var best []int
	most := 0
	for k := 1; k <= min(stands, len(streets)) && most < len(houses); k++ {
		combinations(streets, k, func(l []int) bool {
			if n := served(need, voice, l, houses); n > most {
				best, most = l, n
			}
			return most < len(houses)
		})
	}
	return best, most
}

// apartHouses returns the first of the longest lists of houses no two of which hear the same stand.
func apartHouses(need [][]int, voice int, streets, houses []int) []int {
	sorted := slices.Sorted(slices.Values(houses))
	var found []int
	for k := len(sorted); k > 0 && found == nil; k-- {
		combinations(sorted, k, func(l []int) bool {
			for _, s := range streets {
				if served(need, voice, list(s), l) > 1 {
					return true
				}
			}
			found = l
			return false
		})
	}
	return found
}

// someTown returns a town of so many plots at most, with at most so many houses and streets.
func someTown(r *rand.Rand, maxPlots, maxStreets int) hear.Town {
	for {
		wide := 1 + r.Intn(hear.MaxWide)
		if wide > maxPlots {
			continue
		}
		t := hear.Town{Wide: wide, Plots: make([]hear.Plot, wide*(1+r.Intn(maxPlots/wide)))}
		for p := range t.Plots {
			t.Plots[p] = []hear.Plot{hear.Street, hear.Street, hear.House, hear.House, hear.Wall}[r.Intn(5)]
		}
		if len(plots(t, hear.House)) <= hear.MaxHouses && len(plots(t, hear.Street)) <= maxStreets {
			return t
		}
	}
}

// someTowns calls a function with towns, always the same ones.
func someTowns(t *testing.T, n, maxPlots, maxStreets int, check func(r *rand.Rand, u hear.Town)) {
	t.Helper()
	r := rand.New(rand.NewSource(11))
	for range n {
		u := someTown(r, maxPlots, maxStreets)
		check(r, u)
		if t.Failed() {
			t.Fatal("in the town", u)
		}
	}
}

// someHouses returns some houses of a town, in any order.
func someHouses(r *rand.Rand, t hear.Town) []int {
	houses := plots(t, hear.House)
	r.Shuffle(len(houses), func(i, j int) { houses[i], houses[j] = houses[j], houses[i] })
	return houses[:r.Intn(len(houses)+1)]
}

// args are what a call is given; each call takes what it needs of them.
type args struct {
	t                  hear.Town
	a                  hear.Air
	stand, plot, house int
	houses             []int
	stands             int
	way, table         []int
}

// good returns arguments with which all calls are right.
func good() args {
	return args{t: row(), a: air(hear.Calm, 5), stand: 0, plot: 1, house: 1, houses: list(3, 1), stands: 1, way: list(0, 1, 2), table: list(0, 3, 5, 8)}
}

func (x args) clone() args {
	x.t.Plots = slices.Clone(x.t.Plots)
	x.houses, x.way, x.table = slices.Clone(x.houses), slices.Clone(x.way), slices.Clone(x.table)
	return x
}

// call is one of the functions, with its results beside the error.
type call struct {
	name string
	do   func(args) ([]any, api.Errno)
}

func one[T any](v T, e api.Errno) ([]any, api.Errno) { return []any{v}, e }

func calls() []call {
	return []call{
		{"Check", func(x args) ([]any, api.Errno) { return nil, hear.Check(x.t) }},
		{"Walled", func(x args) ([]any, api.Errno) { return one(hear.Walled(x.t, x.stand)) }},
		{"Need", func(x args) ([]any, api.Errno) { return one(hear.Need(x.t, x.a.Wind, x.stand, x.plot)) }},
		{"Needs", func(x args) ([]any, api.Errno) { return one(hear.Needs(x.t, x.a.Wind, x.stand)) }},
		{"Way", func(x args) ([]any, api.Errno) { return one(hear.Way(x.t, x.a.Wind, x.stand, x.plot)) }},
		{"Takes", func(x args) ([]any, api.Errno) { return one(hear.Takes(x.t, x.a.Wind, x.way)) }},
		{"Holds", func(x args) ([]any, api.Errno) { return one(hear.Holds(x.t, x.a.Wind, x.stand, x.table)) }},
		{"Houses", func(x args) ([]any, api.Errno) { return one(hear.Houses(x.t, x.a, x.stand)) }},
		{"Stands", func(x args) ([]any, api.Errno) { return one(hear.Stands(x.t, x.a, x.house)) }},
		{"Winds", func(x args) ([]any, api.Errno) { return one(hear.Winds(x.t, x.a.Voice, x.stand, x.house)) }},
		{"Deaf", func(x args) ([]any, api.Errno) { return one(hear.Deaf(x.t, x.a)) }},
		{"Fewest", func(x args) ([]any, api.Errno) { return one(hear.Fewest(x.t, x.a, x.houses)) }},
		{"Must", func(x args) ([]any, api.Errno) { return one(hear.Must(x.t, x.a, x.houses)) }},
		{"Apart", func(x args) ([]any, api.Errno) { return one(hear.Apart(x.t, x.a, x.houses)) }},
		{"Best", func(x args) ([]any, api.Errno) {
			l, n, e := hear.Best(x.t, x.a, x.houses, x.stands)
			return []any{l, n}, e
		}},
		{"Louder", func(x args) ([]any, api.Errno) { return one(hear.Louder(x.t, x.a.Wind, x.houses, x.stands)) }},
	}
}

// zero reports whether all results are; a list without elements is zero, too.
func zero(results []any) bool {
	for _, r := range results {
		v := reflect.ValueOf(r)
		if v.Kind() == reflect.Slice && v.Len() == 0 {
			continue
		}
		if !v.IsZero() {
			return false
		}
	}
	return true
}
