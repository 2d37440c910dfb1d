package hear_test

import (
	"math"
	"slices"
	"testing"

	"oyez/api"
	"oyez/hear"
)

// P1.1

func TestKindsAndWindsAreNumberedInOrder(t *testing.T) {
	if hear.Street != 0 || hear.House != 1 || hear.Wall != 2 {
		t.Error(hear.Street, hear.House, hear.Wall)
	}
	if !slices.Equal(winds, []hear.Dir{0, 1, 2, 3, 4}) || hear.None != -1 {
		t.Error(winds, hear.None)
	}
	if hear.MaxWide != 6 || hear.MaxPlots != 30 || hear.MaxHouses != 10 || hear.MaxVoice != 40 {
		t.Error(hear.MaxWide, hear.MaxPlots, hear.MaxHouses, hear.MaxVoice)
	}
}

func TestCheckCountsPlots(t *testing.T) {
	for wide := -2; wide <= 9; wide++ {
		for n := range 40 {
			want := api.ErrCount
			if wide >= 1 && wide <= 6 && n >= 1 && n <= 30 && n%wide == 0 {
				want = api.OK
			}
			if e := hear.Check(hear.Town{Wide: wide, Plots: make([]hear.Plot, n)}); e != want {
				t.Errorf("%d wide, %d plots: error %d, want %d", wide, n, e, want)
			}
		}
	}
}

func TestCheckAsksKindsThenHouses(t *testing.T) {
	for i, x := range []struct {
		t hear.Town
		e api.Errno
	}{
		{town("shw"), api.OK},
		{town("w"), api.OK},
		{hear.Town{Wide: 1, Plots: []hear.Plot{3}}, api.ErrRange},
		{hear.Town{Wide: 1, Plots: []hear.Plot{0, 0, -1}}, api.ErrRange},
		{hear.Town{Wide: 1, Plots: []hear.Plot{math.MaxInt}}, api.ErrRange},
		{hear.Town{Wide: 2, Plots: []hear.Plot{3}}, api.ErrCount},
		{town("hhhhh", "hhhhs"), api.OK},
		{town("hhhhh", "hhhhh"), api.OK},
		{town("hhhhhh", "hhhhhw"), api.ErrCount},
		{hear.Town{Wide: 1, Plots: append(town("hhhhhh", "hhhhhw").Plots, 3)}, api.ErrRange},
		{hear.Town{Wide: 6, Plots: slices.Repeat([]hear.Plot{hear.House}, 30)}, api.ErrCount},
	} {
		if e := hear.Check(x.t); e != x.e {
			t.Errorf("%d: error %d, want %d", i, e, x.e)
		}
	}
}

func TestCheckAir(t *testing.T) {
	for wind := hear.Dir(-3); wind <= 8; wind++ {
		for voice := -3; voice <= 45; voice++ {
			want := api.ErrRange
			if wind >= 0 && wind <= 4 && voice >= 1 && voice <= 40 {
				want = api.OK
			}
			if e := hear.CheckAir(air(wind, voice)); e != want {
				t.Errorf("wind %d, voice %d: error %d, want %d", wind, voice, e, want)
			}
		}
	}
	for _, a := range []hear.Air{air(math.MaxInt, 1), air(math.MinInt, 1), air(0, math.MaxInt), air(0, math.MinInt)} {
		if e := hear.CheckAir(a); e != api.ErrRange {
			t.Error(a, e)
		}
	}
}

func TestWalledWallsOneStreet(t *testing.T) {
	u := town("shw", "ssh")
	for p := -2; p <= 8; p++ {
		got, e := hear.Walled(u, p)
		want, f := hear.Town{}, api.ErrAbsent
		if p >= 0 && p < 6 {
			f = api.ErrFalse
			if u.Plots[p] == hear.Street {
				want, f = hear.Town{Wide: 3, Plots: slices.Clone(u.Plots)}, api.OK
				want.Plots[p] = hear.Wall
			}
		}
		if e != f || got.Wide != want.Wide || !slices.Equal(got.Plots, want.Plots) {
			t.Errorf("plot %d: %v, error %d, want %v, error %d", p, got, e, want, f)
		}
	}
	if !slices.Equal(u.Plots, town("shw", "ssh").Plots) {
		t.Error("the town was changed:", u)
	}
}
