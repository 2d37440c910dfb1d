package hear_test

import (
	"math"
	"math/rand"
	"slices"
	"testing"

	"oyez/api"
	"oyez/hear"
)

// P1.2

func TestNeedsOfTheExamples(t *testing.T) {
	for i, x := range []struct {
		t     hear.Town
		wind  hear.Dir
		stand int
		want  []int
	}{
		{row(), hear.Calm, 0, list(0, 3, 5, 8)},
		{row(), hear.East, 0, list(0, 2, 3, 5)},
		{row(), hear.West, 0, list(0, 5, 9, 14)},
		{row(), hear.North, 0, list(0, 3, 5, 8)},
		{row(), hear.South, 0, list(0, 3, 5, 8)},
		{town("s", "s", "h"), hear.North, 0, list(0, 4, 9)},
		{town("s", "s", "h"), hear.South, 0, list(0, 1, 3)},
		{town("s", "s", "h"), hear.North, 1, list(1, 0, 5)},
		{town("shwh"), hear.Calm, 0, list(0, 3, -1, -1)},
		{town("ss", "ww", "ss"), hear.Calm, 4, list(-1, -1, -1, -1, 0, 2)},
		{town("sws", "www"), hear.East, 0, list(0, -1, -1, -1, -1, -1)},
		{town("sss", "swh"), hear.Calm, 3, list(2, 4, 6, 0, -1, 9)},
		{court(), hear.North, 3, list(2, 4, 7, 0, -1, 11)},
	} {
		if got, e := hear.Needs(x.t, x.wind, x.stand); e != api.OK || !slices.Equal(got, x.want) {
			t.Errorf("%d: %v, error %d, want %v", i, got, e, x.want)
		}
	}
}

func TestACryGoesRoundWhereThatNeedsLess(t *testing.T) {
	// Through the six houses it needs 20 in the calm, 34 against the wind, 13 with it.
	u := town("ss", "hs", "hs", "hs", "hs", "hs", "hs", "ss")
	for wind, want := range map[hear.Dir]int{hear.Calm: 18, hear.North: 32, hear.South: 11, hear.East: 1 + 14 + 4, hear.West: 4 + 14 + 1} {
		if n, e := hear.Need(u, wind, 0, 14); n != want || e != api.OK {
			t.Errorf("wind %d: %d, error %d, want %d", wind, n, e, want)
		}
	}
}

func TestNeedsAreTheLeastOfAllWays(t *testing.T) {
	someTowns(t, 400, 30, 30, func(_ *rand.Rand, u hear.Town) {
		for _, wind := range winds {
			need := loudness(u, wind)
			for _, stand := range plots(u, hear.Street) {
				table, e := hear.Needs(u, wind, stand)
				if e != api.OK || len(table) != len(u.Plots) {
					t.Fatal(u, wind, stand, table, e)
				}
				for p := range u.Plots {
					want, none := need[stand][p], api.OK
					if want >= far {
						want, none = 0, api.ErrNone
					}
					n, f := hear.Need(u, wind, stand, p)
					if n != want || f != none || f == api.OK && table[p] != n || f != api.OK && table[p] != hear.None {
						t.Errorf("wind %d, stand %d, plot %d: Need %d, error %d, Needs %d, want %d", wind, stand, p, n, f, table[p], want)
					}
				}
			}
		}
	})
}

func TestHolds(t *testing.T) {
	for i, x := range []struct {
		t     hear.Town
		wind  hear.Dir
		stand int
		table []int
		want  bool
	}{
		{court(), hear.Calm, 1, list(3, 0, 3, 5, 0, 5), true},
		{court(), hear.Calm, 1, list(3, 0, 3, 5, 9999, 5), true},
		{court(), hear.Calm, 1, list(3, 0, 3, 5, math.MinInt, 5), true},
		{court(), hear.Calm, 1, list(4, 0, 3, 5, 0, 5), false},
		{court(), hear.Calm, 1, list(3, 0, 4, 5, 0, 5), false},
		{court(), hear.Calm, 1, list(3, 0, 3, 5, 0, 6), false},
		{court(), hear.Calm, 1, list(0, 0, 0, 0, 0, 0), true},
		{court(), hear.Calm, 1, list(-2, 0, 3, 0, 0, 5), true},
		{court(), hear.Calm, 1, list(-2, 0, 3, 1, 0, 5), false},
		{court(), hear.Calm, 1, list(-3, 0, 3, -1, 0, 5), false},
		{court(), hear.Calm, 1, list(3, 1, 3, 5, 0, 5), false},
		{court(), hear.Calm, 1, list(1, 1, 1, 1, 1, 1), false},
		{court(), hear.Calm, 1, list(0, -1, 0, 0, 0, 0), false},
		{court(), hear.Calm, 3, list(3, 5, 8, 0, 0, 10), true},
		{court(), hear.North, 3, list(2, 4, 7, 0, 0, 11), true},
		{court(), hear.North, 3, list(3, 4, 7, 0, 0, 11), false},
		{row(), hear.East, 0, list(0, 2, 3, 5), true},
		{row(), hear.West, 0, list(0, 2, 3, 5), true},
		{row(), hear.East, 0, list(0, 3, 5, 8), false},
		{row(), hear.West, 0, list(0, 5, 9, 14), true},
		{row(), hear.Calm, 2, list(-3, 0, 0, 0), true},
		{row(), hear.Calm, 2, list(-4, 0, 0, 0), false},
		{row(), hear.Calm, 0, list(0, 0, 0, math.MaxInt), false},
		{row(), hear.Calm, 0, list(0, 0, 0, math.MinInt), false},
		{row(), hear.Calm, 0, list(0, math.MinInt, math.MaxInt, 0), false},
		{row(), hear.Calm, 0, list(0, 3, 5, 9), false},
		// What no voice reaches from the stand must hold, too.
		{town("swss"), hear.Calm, 0, list(0, 0, 7, 9), true},
		{town("swss"), hear.Calm, 0, list(0, 0, 9, 7), true},
		{town("swss"), hear.Calm, 0, list(0, 0, 7, 10), false},
		{town("swss"), hear.Calm, 0, list(0, 0, 10, 7), false},
		{town("swss"), hear.Calm, 0, list(0, 0, math.MaxInt, math.MaxInt), true},
		{town("swss"), hear.Calm, 0, list(0, 0, math.MaxInt, math.MaxInt-1), true},
		{town("swss"), hear.Calm, 0, list(0, 0, math.MaxInt, math.MaxInt-2), true},
		{town("swss"), hear.Calm, 0, list(0, 0, math.MaxInt, math.MaxInt-3), false},
		{town("swss"), hear.Calm, 0, list(0, 0, math.MinInt, math.MinInt), true},
		{town("swss"), hear.Calm, 0, list(0, 0, math.MinInt, math.MaxInt), false},
		{town("swss"), hear.Calm, 0, list(0, 0, math.MaxInt, math.MinInt), false},
		{town("ss", "ss"), hear.Calm, 0, list(0, 2, 2, 4), true},
		{town("ss", "ss"), hear.Calm, 0, list(0, 0, 0, 3), false},
		// Plots at the ends of two rows are no neighbours.
		{town("wws", "sww"), hear.Calm, 2, list(0, 0, 0, 90, 0, 0), true},
		{town("wws", "sww"), hear.Calm, 2, list(0, 0, 0, -90, 0, 0), true},
	} {
		if got, e := hear.Holds(x.t, x.wind, x.stand, x.table); got != x.want || e != api.OK {
			t.Errorf("%d: %v, error %d, want %v", i, got, e, x.want)
		}
	}
}

func TestHoldsAsksEachStep(t *testing.T) {
	someTowns(t, 300, 12, 12, func(r *rand.Rand, u hear.Town) {
		for _, stand := range plots(u, hear.Street) {
			wind := winds[r.Intn(5)]
			table, _ := hear.Needs(u, wind, stand)
			for range 20 {
				table[r.Intn(len(table))] += r.Intn(5) - 2
				want := table[stand] == 0
				for from := range u.Plots {
					for to := range u.Plots {
						if n, ok := stepNeeds(u, wind, from, to); ok && table[to] > table[from]+n {
							want = false
						}
					}
				}
				if got, e := hear.Holds(u, wind, stand, table); got != want || e != api.OK {
					t.Error(wind, stand, table, got, e)
				}
				if !want {
					table, _ = hear.Needs(u, wind, stand)
				}
			}
		}
	})
}

// P1.3

func TestWayNeedsAsLittleAsAny(t *testing.T) {
	someTowns(t, 300, 30, 30, func(_ *rand.Rand, u hear.Town) {
		for _, wind := range winds {
			need := loudness(u, wind)
			for _, stand := range plots(u, hear.Street) {
				for p := range u.Plots {
					way, e := hear.Way(u, wind, stand, p)
					if need[stand][p] >= far {
						if e != api.ErrNone || len(way) != 0 {
							t.Error(wind, stand, p, way, e)
						}
						continue
					}
					n, ok := wayNeeds(u, wind, way)
					if e != api.OK || !ok || n != need[stand][p] || way[0] != stand || way[len(way)-1] != p {
						t.Error(wind, stand, p, way, n, ok, e)
					}
				}
			}
		}
	})
}

func TestTakes(t *testing.T) {
	for i, x := range []struct {
		t    hear.Town
		wind hear.Dir
		way  []int
		n    int
		e    api.Errno
	}{
		{court(), hear.Calm, list(1), 0, api.OK},
		{court(), hear.Calm, list(1, 0, 3), 5, api.OK},
		{court(), hear.North, list(1, 0, 3), 7, api.OK},
		{court(), hear.South, list(1, 0, 3), 4, api.OK},
		{court(), hear.West, list(1, 0, 3), 4, api.OK},
		{court(), hear.East, list(1, 0, 3), 7, api.OK},
		{court(), hear.Calm, list(1, 0, 1, 0, 1, 2), 13, api.OK},
		{court(), hear.Calm, nil, 0, api.ErrCount},
		{court(), hear.Calm, list(), 0, api.ErrCount},
		{court(), hear.Calm, list(0), 0, api.ErrFalse},
		{court(), hear.Calm, list(0, 1), 0, api.ErrFalse},
		{court(), hear.Calm, list(4), 0, api.ErrFalse},
		{court(), hear.Calm, list(1, 4), 0, api.ErrFalse},
		{court(), hear.Calm, list(3, 4, 5), 0, api.ErrFalse},
		{court(), hear.Calm, list(1, 1), 0, api.ErrFalse},
		{court(), hear.Calm, list(1, 3), 0, api.ErrFalse},
		{court(), hear.Calm, list(3, 2), 0, api.ErrFalse},
		{court(), hear.Calm, list(3, 0, 2), 0, api.ErrFalse},
		{court(), hear.Calm, list(-1), 0, api.ErrFalse},
		{court(), hear.Calm, list(6), 0, api.ErrFalse},
		{court(), hear.Calm, list(1, -2), 0, api.ErrFalse},
		{court(), hear.Calm, list(1, 0, -3), 0, api.ErrFalse},
		{court(), hear.Calm, list(3, 6), 0, api.ErrFalse},
		{court(), hear.Calm, list(1, math.MaxInt), 0, api.ErrFalse},
		{court(), hear.Calm, list(math.MinInt, 1), 0, api.ErrFalse},
		{town("ss", "ss"), hear.Calm, list(1, 2), 0, api.ErrFalse},
		{town("ss", "ss"), hear.Calm, list(0, 3), 0, api.ErrFalse},
		{town("ss", "ss"), hear.Calm, list(1, 3, 2), 4, api.OK},
	} {
		if n, e := hear.Takes(x.t, x.wind, x.way); n != x.n || e != x.e {
			t.Errorf("%d: %d, error %d, want %d, error %d", i, n, e, x.n, x.e)
		}
	}
}

func TestTakesAddsEachStep(t *testing.T) {
	someTowns(t, 500, 12, 12, func(r *rand.Rand, u hear.Town) {
		for range 60 {
			wind, way := winds[r.Intn(5)], list(r.Intn(len(u.Plots)))
			for range r.Intn(6) {
				from := way[len(way)-1]
				way = append(way, from+[]int{-1, 1, u.Wide, -u.Wide, 0, 2, -1, 1}[r.Intn(8)])
			}
			want, ok := wayNeeds(u, wind, way)
			e := api.OK
			if !ok {
				e = api.ErrFalse
			}
			if n, f := hear.Takes(u, wind, way); n != want || f != e {
				t.Error(wind, way, n, f, want, e)
			}
		}
	})
}

func TestTakesOfALongWay(t *testing.T) {
	way := make([]int, 100001)
	for i := range way {
		way[i] = i % 2
	}
	if n, e := hear.Takes(row(), hear.Calm, way); n != 250000 || e != api.OK {
		t.Error(n, e)
	}
}

// P1.4

func TestWhoHearsInTheExamples(t *testing.T) {
	for i, x := range []struct {
		t      hear.Town
		a      hear.Air
		stand  int
		houses []int
	}{
		{row(), air(hear.Calm, 5), 0, list(1)},
		{row(), air(hear.Calm, 5), 2, list(1, 3)},
		{row(), air(hear.West, 5), 2, list(1, 3)},
		{row(), air(hear.West, 4), 2, list(1)},
		{row(), air(hear.West, 1), 2, nil},
		{court(), air(hear.Calm, 3), 1, list(0, 2)},
		{court(), air(hear.Calm, 3), 3, list(0)},
		{court(), air(hear.Calm, 3), 5, list(2)},
		{court(), air(hear.Calm, 2), 5, nil},
		{court(), air(hear.North, 2), 3, list(0)},
		{court(), air(hear.North, 2), 1, nil},
	} {
		if got, e := hear.Houses(x.t, x.a, x.stand); e != api.OK || !slices.Equal(got, x.houses) {
			t.Errorf("%d: %v, error %d, want %v", i, got, e, x.houses)
		}
	}
}

func TestWhoHears(t *testing.T) {
	someTowns(t, 250, 30, 30, func(r *rand.Rand, u hear.Town) {
		a := air(winds[r.Intn(5)], 1+r.Intn(20))
		need := loudness(u, a.Wind)
		streets, houses := plots(u, hear.Street), plots(u, hear.House)
		for _, stand := range streets {
			want := slices.DeleteFunc(slices.Clone(houses), func(h int) bool { return need[stand][h] > a.Voice })
			if got, e := hear.Houses(u, a, stand); e != api.OK || !slices.Equal(got, want) {
				t.Error("houses", a, stand, got, e, want)
			}
		}
		var deaf []int
		for _, house := range houses {
			want := slices.DeleteFunc(slices.Clone(streets), func(s int) bool { return need[s][house] > a.Voice })
			if got, e := hear.Stands(u, a, house); e != api.OK || !slices.Equal(got, want) {
				t.Error("stands", a, house, got, e, want)
			}
			if len(want) == 0 {
				deaf = append(deaf, house)
			}
		}
		if got, e := hear.Deaf(u, a); e != api.OK || !slices.Equal(got, deaf) {
			t.Error("deaf", a, got, e, deaf)
		}
	})
}

func TestDeaf(t *testing.T) {
	for i, x := range []struct {
		t    hear.Town
		a    hear.Air
		want []int
	}{
		{court(), air(hear.Calm, 3), nil},
		{court(), air(hear.Calm, 2), list(0, 2)},
		{town("shwh"), air(hear.Calm, 40), list(3)},
		{town("wwhh"), air(hear.Calm, 40), list(2, 3)},
		{town("s"), air(hear.Calm, 40), nil},
		{town("w"), air(hear.Calm, 40), nil},
	} {
		if got, e := hear.Deaf(x.t, x.a); e != api.OK || !slices.Equal(got, x.want) {
			t.Errorf("%d: %v, error %d, want %v", i, got, e, x.want)
		}
	}
}

func TestWinds(t *testing.T) {
	all := []hear.Dir{hear.Calm, hear.North, hear.East, hear.South, hear.West}
	for i, x := range []struct {
		voice, stand, house int
		want                []hear.Dir
	}{
		{1, 3, 0, nil},
		{2, 3, 0, []hear.Dir{hear.North}},
		{3, 3, 0, []hear.Dir{hear.Calm, hear.North, hear.East, hear.West}},
		{4, 3, 0, []hear.Dir{hear.Calm, hear.North, hear.East, hear.West}},
		{5, 3, 0, all},
		{40, 3, 0, all},
		{2, 1, 2, []hear.Dir{hear.East}},
		{2, 1, 0, []hear.Dir{hear.West}},
		{4, 1, 0, []hear.Dir{hear.Calm, hear.North, hear.South, hear.West}},
	} {
		if got, e := hear.Winds(court(), x.voice, x.stand, x.house); e != api.OK || !slices.Equal(got, x.want) {
			t.Errorf("%d: %v, error %d, want %v", i, got, e, x.want)
		}
	}
	if got, e := hear.Winds(town("s", "h"), 2, 0, 1); e != api.OK || !slices.Equal(got, []hear.Dir{hear.South}) {
		t.Error(got, e)
	}
	if got, e := hear.Winds(town("shwh"), 40, 0, 3); e != api.OK || len(got) != 0 {
		t.Error(got, e)
	}
	if got, e := hear.Winds(town("shwh"), 41, 0, 3); e != api.ErrRange || len(got) != 0 {
		t.Error(got, e)
	}
}
