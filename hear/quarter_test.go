package hear_test

import (
	"math/rand"
	"slices"
	"testing"

	"oyez/api"
	"oyez/hear"
)

// P1.5

func TestQuartersOfTheExamples(t *testing.T) {
	none := api.ErrNone
	for i, x := range []struct {
		t                   hear.Town
		a                   hear.Air
		houses              []int
		fewest, must, apart []int
		e                   api.Errno
	}{
		{row(), air(hear.Calm, 5), list(1, 3), list(2), list(2), list(1), api.OK},
		{row(), air(hear.Calm, 5), list(3, 1), list(2), list(2), list(1), api.OK},
		{row(), air(hear.Calm, 5), list(1), list(0), nil, list(1), api.OK},
		{row(), air(hear.Calm, 5), list(3), list(2), list(2), list(3), api.OK},
		{row(), air(hear.Calm, 5), nil, nil, nil, nil, api.OK},
		{row(), air(hear.Calm, 2), nil, nil, nil, nil, api.OK},
		{row(), air(hear.Calm, 2), list(3, 1), nil, nil, list(1, 3), none},
		{row(), air(hear.West, 5), list(1, 3), list(2), list(2), list(1), api.OK},
		{row(), air(hear.East, 1), list(1), nil, nil, list(1), none},
		{court(), air(hear.Calm, 3), list(2, 0), list(1), nil, list(0), api.OK},
		{court(), air(hear.North, 2), list(2, 0), list(3, 5), list(3, 5), list(0, 2), api.OK},
		{town("shwh"), air(hear.Calm, 40), list(3, 1), nil, nil, list(1, 3), none},
		{town("shwh"), air(hear.Calm, 40), list(1), list(0), list(0), list(1), api.OK},
		{town("shw", "wsh", "hwh"), air(hear.Calm, 3), list(1, 5), list(4), list(4), list(1), api.OK},
		{town("w"), air(hear.Calm, 40), nil, nil, nil, nil, api.OK},
		{town("hwh"), air(hear.Calm, 40), list(2), nil, nil, list(2), none},
	} {
		fewest, e := hear.Fewest(x.t, x.a, x.houses)
		must, f := hear.Must(x.t, x.a, x.houses)
		apart, g := hear.Apart(x.t, x.a, x.houses)
		if !slices.Equal(fewest, x.fewest) || e != x.e || !slices.Equal(must, x.must) || f != x.e {
			t.Errorf("%d: fewest %v, error %d; must %v, error %d", i, fewest, e, must, f)
		}
		if !slices.Equal(apart, x.apart) || g != api.OK {
			t.Errorf("%d: apart %v, error %d, want %v", i, apart, g, x.apart)
		}
	}
}

// quarters calls a function with quarters of towns that are small enough to try all lists of stands.
func quarters(t *testing.T, check func(r *rand.Rand, u hear.Town, a hear.Air, houses []int, need [][]int)) {
	t.Helper()
	someTowns(t, 600, 24, 9, func(r *rand.Rand, u hear.Town) {
		for range 4 {
			a := air(winds[r.Intn(5)], 1+r.Intn(9))
			check(r, u, a, someHouses(r, u), loudness(u, a.Wind))
		}
	})
}

func TestFewestAndMust(t *testing.T) {
	quarters(t, func(_ *rand.Rand, u hear.Town, a hear.Air, houses []int, need [][]int) {
		streets := plots(u, hear.Street)
		want, n := bestStands(need, a.Voice, streets, houses, len(streets))
		var must []int
		e := api.OK
		if n < len(houses) {
			want, e = nil, api.ErrNone
		} else {
			for _, s := range streets {
				others := slices.DeleteFunc(slices.Clone(streets), func(o int) bool { return o == s })
				if served(need, a.Voice, others, houses) < len(houses) {
					must = append(must, s)
				}
			}
		}
		if got, f := hear.Fewest(u, a, houses); f != e || !slices.Equal(got, want) {
			t.Error("fewest", a, houses, got, f, want, e)
		}
		if got, f := hear.Must(u, a, houses); f != e || !slices.Equal(got, must) {
			t.Error("must", a, houses, got, f, must, e)
		}
	})
}

func TestApart(t *testing.T) {
	quarters(t, func(_ *rand.Rand, u hear.Town, a hear.Air, houses []int, need [][]int) {
		want := apartHouses(need, a.Voice, plots(u, hear.Street), houses)
		if got, e := hear.Apart(u, a, houses); e != api.OK || !slices.Equal(got, want) {
			t.Error(a, houses, got, e, want)
		}
	})
}

func TestApartOfSeveralLongestListsTheFirst(t *testing.T) {
	for i, x := range []struct {
		t            hear.Town
		houses, want []int
	}{
		{town("hshsh"), list(4, 2, 0), list(0, 4)},
		{town("hshsh"), list(4, 2), list(2)},
		// House 0 hears both stands: a list with it is shorter than the one without it.
		{town("hsh", "sww", "hww"), list(6, 2, 0), list(2, 6)},
		// Houses 6, 9 and 11 are deaf, and so apart from all.
		{town("hshwsh", "hwwhwh"), list(11, 9, 6, 5, 2, 0), list(0, 5, 6, 9, 11)},
		{town("hshwsh", "hwwhwh"), list(11, 2, 5), list(2, 5, 11)},
	} {
		if got, e := hear.Apart(x.t, air(hear.Calm, 3), x.houses); e != api.OK || !slices.Equal(got, x.want) {
			t.Errorf("%d: %v, error %d, want %v", i, got, e, x.want)
		}
	}
}

// P1.6

func TestBestAndLouderOfTheExamples(t *testing.T) {
	for i, x := range []struct {
		t      hear.Town
		a      hear.Air
		houses []int
		stands int
		best   []int
		n      int
		loud   int
		e      api.Errno
	}{
		{court(), air(hear.North, 2), list(0, 2), 1, list(3), 1, 3, api.OK},
		{court(), air(hear.North, 2), list(2, 0), 2, list(3, 5), 2, 2, api.OK},
		{court(), air(hear.North, 2), list(2, 0), 30, list(3, 5), 2, 2, api.OK},
		{court(), air(hear.North, 2), list(2, 0), 0, nil, 0, 0, api.ErrNone},
		{court(), air(hear.North, 1), list(2, 0), 30, nil, 0, 2, api.OK},
		{court(), air(hear.Calm, 3), list(0, 2), 2, list(1), 2, 3, api.OK},
		{court(), air(hear.Calm, 2), list(0, 2), 2, nil, 0, 3, api.OK},
		{court(), air(hear.Calm, 3), nil, 0, nil, 0, 1, api.OK},
		{court(), air(hear.Calm, 3), nil, 30, nil, 0, 1, api.OK},
		{town("shwh"), air(hear.Calm, 3), list(1, 3), 1, list(0), 1, 0, api.ErrNone},
		{town("shwh"), air(hear.Calm, 3), list(3), 30, nil, 0, 0, api.ErrNone},
		{town("shwh"), air(hear.Calm, 3), list(1), 30, list(0), 1, 3, api.OK},
		// Stand 8 serves two houses; stand 0, which comes before it, serves one.
		{town("shwwww", "whshww"), air(hear.Calm, 3), list(1, 7, 9), 1, list(8), 2, 6, api.OK},
		{town("shwwww", "whshww"), air(hear.Calm, 3), list(1, 7, 9), 3, list(0, 8), 3, 3, api.OK},
	} {
		best, n, e := hear.Best(x.t, x.a, x.houses, x.stands)
		if !slices.Equal(best, x.best) || n != x.n || e != api.OK {
			t.Errorf("%d: best %v for %d, error %d, want %v for %d", i, best, n, e, x.best, x.n)
		}
		if loud, f := hear.Louder(x.t, x.a.Wind, x.houses, x.stands); loud != x.loud || f != x.e {
			t.Errorf("%d: louder %d, error %d, want %d, error %d", i, loud, f, x.loud, x.e)
		}
	}
}

func TestBest(t *testing.T) {
	quarters(t, func(r *rand.Rand, u hear.Town, a hear.Air, houses []int, need [][]int) {
		streets := plots(u, hear.Street)
		for _, stands := range []int{0, 1, 2, 3, r.Intn(31), 30} {
			want, n := bestStands(need, a.Voice, streets, houses, stands)
			if got, m, e := hear.Best(u, a, houses, stands); e != api.OK || m != n || !slices.Equal(got, want) {
				t.Error(a, houses, stands, got, m, e, want, n)
			}
		}
	})
}

func TestLouder(t *testing.T) {
	quarters(t, func(r *rand.Rand, u hear.Town, a hear.Air, houses []int, need [][]int) {
		streets := plots(u, hear.Street)
		stands := r.Intn(4)
		want, e := 0, api.ErrNone
		for voice := hear.MaxVoice; voice >= 1; voice-- {
			if _, n := bestStands(need, voice, streets, houses, stands); n == len(houses) {
				want, e = voice, api.OK
			}
		}
		if got, f := hear.Louder(u, a.Wind, houses, stands); got != want || f != e {
			t.Error(a.Wind, houses, stands, got, f, want, e)
		}
	})
}

func TestTheLoudestVoice(t *testing.T) {
	for i, x := range []struct {
		t     hear.Town
		house int
		need  int
	}{
		{town("h", "h", "h", "h", "h", "h", "h", "h", "s"), 0, 40},
		{town("hhh", "hww", "hww", "hww", "hww", "hww", "hww", "sww"), 2, 41},
		{town("h", "h", "h", "h", "h", "h", "h", "h", "h", "s"), 0, 45},
	} {
		stand := slices.Index(x.t.Plots, hear.Street)
		if n, e := hear.Need(x.t, hear.South, stand, x.house); n != x.need || e != api.OK {
			t.Errorf("%d: need %d, error %d, want %d", i, n, e, x.need)
		}
		want, e := x.need, api.OK
		if x.need > hear.MaxVoice {
			want, e = 0, api.ErrNone
		}
		if n, f := hear.Louder(x.t, hear.South, list(x.house), 1); n != want || f != e {
			t.Errorf("%d: louder %d, error %d, want %d, error %d", i, n, f, want, e)
		}
		heard, _ := hear.Stands(x.t, air(hear.South, hear.MaxVoice), x.house)
		if (len(heard) == 1) != (e == api.OK) {
			t.Errorf("%d: heard %v", i, heard)
		}
	}
}

// greatTown returns a town of 30 plots with 10 houses, and with streets from 8 to 20.
func greatTown(r *rand.Rand) hear.Town {
	t := hear.Town{Wide: []int{1, 2, 3, 5, 6}[r.Intn(5)], Plots: make([]hear.Plot, hear.MaxPlots)}
	walls := r.Intn(13)
	for i, p := range r.Perm(hear.MaxPlots) {
		if i < hear.MaxHouses {
			t.Plots[p] = hear.House
		} else if i < hear.MaxHouses+walls {
			t.Plots[p] = hear.Wall
		}
	}
	return t
}

func TestGreatQuarters(t *testing.T) {
	r := rand.New(rand.NewSource(3))
	for range 150 {
		u, a, stands := greatTown(r), air(winds[r.Intn(5)], 2+r.Intn(5)), r.Intn(4)
		houses, streets, need := plots(u, hear.House), plots(u, hear.Street), loudness(u, a.Wind)
		want, n := bestStands(need, a.Voice, streets, houses, stands)
		if got, m, e := hear.Best(u, a, houses, stands); e != api.OK || m != n || !slices.Equal(got, want) {
			t.Error(u, a, houses, stands, got, m, e, want, n)
		}
		fewest, e := hear.Fewest(u, a, houses)
		if e != api.OK {
			if deaf, _ := hear.Deaf(u, a); e != api.ErrNone || len(deaf) == 0 {
				t.Error(u, a, e, deaf)
			}
			continue
		}
		if served(need, a.Voice, fewest, houses) < len(houses) {
			t.Error(u, a, fewest, "do not serve the houses")
		}
		if _, n := bestStands(need, a.Voice, streets, houses, min(4, len(fewest)-1)); n == len(houses) {
			t.Error(u, a, fewest, "are too many")
		}
	}
}

func TestTenHousesThatNeedTenStands(t *testing.T) {
	u := town("shshsh", "shshsh", "shshsh", "shwwww")
	houses, streets := plots(u, hear.House), plots(u, hear.Street)
	// Each house hears the stand to the west of it alone.
	a := air(hear.East, 2)
	fewest, e := hear.Fewest(u, a, houses)
	must, f := hear.Must(u, a, houses)
	apart, g := hear.Apart(u, a, houses)
	if !slices.Equal(fewest, streets) || !slices.Equal(must, streets) || !slices.Equal(apart, houses) || e != api.OK || f != api.OK || g != api.OK {
		t.Error(fewest, must, apart, e, f, g)
	}
	for stands := range 31 {
		n := min(stands, 10)
		got, m, e := hear.Best(u, a, houses, stands)
		if !slices.Equal(got, streets[:n]) || m != n || e != api.OK {
			t.Error(stands, got, m, e)
		}
		if loud, e := hear.Louder(u, hear.East, houses, stands); stands >= 10 && loud != 2 || stands == 9 && loud <= 2 || (stands == 0) != (e == api.ErrNone) {
			t.Error(stands, loud, e)
		}
	}
}
