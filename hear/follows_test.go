package hear_test

import (
	"math/rand"
	"slices"
	"testing"

	"oyez/api"
	"oyez/hear"
)

// P1.7 and P0.2

func TestHearsJustIfItIsTold(t *testing.T) {
	someTowns(t, 150, 20, 20, func(_ *rand.Rand, u hear.Town) {
		for _, a := range []hear.Air{air(hear.Calm, 3), air(hear.North, 5), air(hear.East, 2), air(hear.South, 6), air(hear.West, 4)} {
			deaf, _ := hear.Deaf(u, a)
			for _, house := range plots(u, hear.House) {
				stands, _ := hear.Stands(u, a, house)
				if slices.Contains(deaf, house) != (len(stands) == 0) {
					t.Error(a, house, deaf, stands)
				}
				for _, stand := range plots(u, hear.Street) {
					houses, _ := hear.Houses(u, a, stand)
					in, _ := hear.Winds(u, a.Voice, stand, house)
					n, e := hear.Need(u, a.Wind, stand, house)
					hears := e == api.OK && n <= a.Voice
					if slices.Contains(stands, stand) != hears || slices.Contains(houses, house) != hears || slices.Contains(in, a.Wind) != hears {
						t.Error(a, stand, house, n, stands, houses, in)
					}
				}
			}
		}
	})
}

func TestTheFewestStandsOrAHouseThatNoneReaches(t *testing.T) {
	quarters(t, func(_ *rand.Rand, u hear.Town, a hear.Air, houses []int, _ [][]int) {
		fewest, e := hear.Fewest(u, a, houses)
		deaf, _ := hear.Deaf(u, a)
		named := slices.ContainsFunc(houses, func(h int) bool { return slices.Contains(deaf, h) })
		if e == api.OK && named || e != api.OK && !named {
			t.Error(a, houses, fewest, e, deaf)
		}
		if e != api.OK {
			return
		}
		apart, _ := hear.Apart(u, a, houses)
		best, n, _ := hear.Best(u, a, houses, hear.MaxPlots)
		if len(apart) > len(fewest) || n != len(houses) || !slices.Equal(best, fewest) {
			t.Error(a, houses, fewest, apart, best, n)
		}
		must, _ := hear.Must(u, a, houses)
		for _, stand := range must {
			if !slices.Contains(fewest, stand) {
				t.Error(a, houses, fewest, must)
			}
		}
		if voice, e := hear.Louder(u, a.Wind, houses, len(fewest)); e != api.OK || voice > a.Voice {
			t.Error(a, houses, fewest, voice, e)
		}
	})
}

// tables returns some tables for a stand; the one of Needs is lowered here and there, so that many of them hold.
func tables(r *rand.Rand, needs []int) [][]int {
	all := [][]int{slices.Clone(needs)}
	for range 30 {
		table := slices.Clone(needs)
		for p := range table {
			table[p] += r.Intn(4) * (r.Intn(3) - 1) / 2
		}
		all = append(all, table)
	}
	return all
}

func TestNoTableBettersNeeds(t *testing.T) {
	someTowns(t, 200, 8, 8, func(r *rand.Rand, u hear.Town) {
		wind := winds[r.Intn(5)]
		for _, stand := range plots(u, hear.Street) {
			needs, _ := hear.Needs(u, wind, stand)
			if is, e := hear.Holds(u, wind, stand, needs); !is || e != api.OK {
				t.Error(wind, stand, needs, is, e)
			}
			for _, table := range tables(r, needs) {
				is, _ := hear.Holds(u, wind, stand, table)
				for p := range table {
					if is && needs[p] != hear.None && table[p] > needs[p] {
						t.Error(wind, stand, table, "holds, beside", needs)
					}
				}
			}
			for p := range needs {
				better := slices.Clone(needs)
				better[p]++
				if is, _ := hear.Holds(u, wind, stand, better); is && needs[p] != hear.None {
					t.Error(wind, stand, better, "holds, beside", needs)
				}
			}
		}
	})
}

func TestALouderVoice(t *testing.T) {
	someTowns(t, 100, 20, 20, func(r *rand.Rand, u hear.Town) {
		wind, houses := winds[r.Intn(5)], someHouses(r, u)
		stands := hear.MaxPlots + 1
		heard := map[int][]int{}
		for voice := 1; voice <= hear.MaxVoice; voice++ {
			for _, stand := range plots(u, hear.Street) {
				now, _ := hear.Houses(u, air(wind, voice), stand)
				for _, h := range heard[stand] {
					if !slices.Contains(now, h) {
						t.Error(wind, voice, stand, h, "hears no more")
					}
				}
				heard[stand] = now
			}
			fewest, e := hear.Fewest(u, air(wind, voice), houses)
			if e != api.OK && stands <= hear.MaxPlots || e == api.OK && len(fewest) > stands {
				t.Error(wind, voice, houses, fewest, e, "after", stands)
			}
			if e == api.OK {
				stands = len(fewest)
			}
		}
	})
}

func TestAWallMore(t *testing.T) {
	someTowns(t, 100, 20, 20, func(r *rand.Rand, u hear.Town) {
		streets := plots(u, hear.Street)
		if len(streets) < 2 {
			return
		}
		wind, plot := winds[r.Intn(5)], streets[r.Intn(len(streets))]
		walled, e := hear.Walled(u, plot)
		if e != api.OK || hear.Check(walled) != api.OK {
			t.Fatal(walled, e)
		}
		for _, stand := range streets {
			if stand == plot {
				continue
			}
			before, _ := hear.Needs(u, wind, stand)
			after, e := hear.Needs(walled, wind, stand)
			if e != api.OK {
				t.Fatal(e)
			}
			for p := range after {
				if after[p] != hear.None && (before[p] == hear.None || after[p] < before[p]) {
					t.Error(wind, plot, stand, p, before, after)
				}
			}
		}
	})
}

func TestThereAndBack(t *testing.T) {
	other := map[hear.Dir]hear.Dir{hear.Calm: hear.Calm, hear.North: hear.South, hear.South: hear.North, hear.East: hear.West, hear.West: hear.East}
	someTowns(t, 100, 20, 20, func(_ *rand.Rand, u hear.Town) {
		for _, wind := range winds {
			for _, from := range plots(u, hear.Street) {
				for _, to := range plots(u, hear.Street) {
					n, e := hear.Need(u, wind, from, to)
					m, f := hear.Need(u, other[wind], to, from)
					if n != m || e != f {
						t.Error(wind, from, to, n, e, m, f)
					}
				}
			}
		}
	})
}

func TestAWindAtMostDoubles(t *testing.T) {
	someTowns(t, 100, 30, 30, func(_ *rand.Rand, u hear.Town) {
		for _, stand := range plots(u, hear.Street) {
			calm, _ := hear.Needs(u, hear.Calm, stand)
			for _, wind := range winds {
				windy, _ := hear.Needs(u, wind, stand)
				for p := range calm {
					if (calm[p] == hear.None) != (windy[p] == hear.None) || calm[p] != hear.None && (windy[p] > 2*calm[p] || calm[p] > 2*windy[p]) {
						t.Error(wind, stand, p, calm, windy)
					}
				}
			}
		}
	})
}
