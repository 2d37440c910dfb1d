package find_test

import (
	"math"
	"math/rand"
	"slices"
	"testing"

	"oyez/api"
	"oyez/find"
)

// P6.1 and P6.2

// sized returns a desk with so many traits and things of which all values are the same.
func sized(traits, lost, found int) find.Desk {
	thing := slices.Repeat(list(1), traits)
	return find.Desk{
		Weights: slices.Repeat(list(2), traits),
		Lost:    slices.Repeat(lists(thing), lost),
		Found:   slices.Repeat(lists(thing), found),
		Rewards: make([]int, lost),
	}
}

// changed returns the desk of the examples with something else in it.
func changed(do func(*find.Desk)) find.Desk {
	d := purse(0)
	do(&d)
	return d
}

func TestDesksThatAreRight(t *testing.T) {
	for i, d := range []find.Desk{
		purse(0),
		purse(3),
		sized(1, 0, 0),
		sized(5, 0, 0),
		sized(1, 6, 0),
		sized(1, 0, 6),
		sized(5, 6, 6),
		changed(func(d *find.Desk) { d.Weights = list(1, 9, 1) }),
		changed(func(d *find.Desk) { d.Rewards = list(0, 99) }),
		changed(func(d *find.Desk) {
			d.Lost, d.Found = lists(list(u, u, u), list(5, 0, u)), lists(list(0, 5, u), list(u, u, u))
		}),
	} {
		if e := find.Check(d); e != api.OK {
			t.Error(i, e)
		}
	}
}

func TestDesksThatAreWrong(t *testing.T) {
	for i, x := range []struct {
		d find.Desk
		e api.Errno
	}{
		{find.Desk{}, api.ErrCount},
		{sized(0, 1, 1), api.ErrCount},
		{sized(6, 1, 1), api.ErrCount},
		{sized(1, 7, 1), api.ErrCount},
		{sized(1, 1, 7), api.ErrCount},
		{sized(6, 0, 0), api.ErrCount},
		{changed(func(d *find.Desk) { d.Lost[0] = list(1, 1) }), api.ErrCount},
		{changed(func(d *find.Desk) { d.Lost[1] = list(1, 1, 1, 1) }), api.ErrCount},
		{changed(func(d *find.Desk) { d.Found[0] = nil }), api.ErrCount},
		{changed(func(d *find.Desk) { d.Found[1] = list(1, 1, 1, 1) }), api.ErrCount},
		{changed(func(d *find.Desk) { d.Rewards = list(1) }), api.ErrCount},
		{changed(func(d *find.Desk) { d.Rewards = list(1, 1, 1) }), api.ErrCount},
		{changed(func(d *find.Desk) { d.Lost = nil }), api.ErrCount},
		{changed(func(d *find.Desk) { d.Weights[0], d.Found[1] = 0, list(1, 1) }), api.ErrCount},
		{changed(func(d *find.Desk) { d.Slips, d.Rewards = -1, nil }), api.ErrCount},
		{changed(func(d *find.Desk) { d.Weights[0] = 0 }), api.ErrRange},
		{changed(func(d *find.Desk) { d.Weights[2] = 10 }), api.ErrRange},
		{changed(func(d *find.Desk) { d.Weights[1] = math.MinInt }), api.ErrRange},
		{changed(func(d *find.Desk) { d.Slips = -1 }), api.ErrRange},
		{changed(func(d *find.Desk) { d.Slips = 4 }), api.ErrRange},
		{changed(func(d *find.Desk) { d.Rewards[0] = -1 }), api.ErrRange},
		{changed(func(d *find.Desk) { d.Rewards[1] = 100 }), api.ErrRange},
		{changed(func(d *find.Desk) { d.Lost[0][0] = -2 }), api.ErrRange},
		{changed(func(d *find.Desk) { d.Lost[1][2] = 6 }), api.ErrRange},
		{changed(func(d *find.Desk) { d.Found[0][2] = math.MaxInt }), api.ErrRange},
		{changed(func(d *find.Desk) { d.Found[1][0] = -2 }), api.ErrRange},
	} {
		if e := find.Check(x.d); e != x.e {
			t.Error(i, e)
		}
	}
}

func TestAgree(t *testing.T) {
	d := find.Desk{
		Weights: list(5, 3, 2, 9),
		Slips:   1,
		Lost:    lists(list(0, 1, 2, u), list(u, u, u, u)),
		Found:   lists(list(0, 1, 2, 3), list(0, 2, 2, u), list(1, 2, 2, 0), list(1, u, u, u), list(u, u, u, 4), list(u, u, u, u)),
		Rewards: list(0, 0),
	}
	for i, x := range []struct {
		lost, found      int
		agreement, slips int
		can              bool
	}{
		{0, 0, 10, 0, true},
		{0, 1, 7, 1, true},
		{0, 2, 2, 2, false},
		{0, 3, 0, 1, false},
		{0, 4, 0, 0, false},
		{0, 5, 0, 0, false},
		{1, 0, 0, 0, false},
		{1, 5, 0, 0, false},
	} {
		agreement, slips, can, e := find.Agree(d, x.lost, x.found)
		if agreement != x.agreement || slips != x.slips || can != x.can || e != api.OK {
			t.Error(i, agreement, slips, can, e)
		}
	}
}

func TestSlipsThatAreForgiven(t *testing.T) {
	d := sized(5, 1, 1)
	for slips := range 6 {
		for forgiven := range find.MaxSlips + 1 {
			d.Slips = forgiven
			got := known(d, 0, 0, 1)
			for trait := range slips {
				got = known(got, 0, trait, 0)
			}
			agreement, n, can, e := find.Agree(got, 0, 0)
			if agreement != 2*(5-slips) || n != slips || can != (slips <= forgiven) || e != api.OK {
				t.Error(slips, forgiven, agreement, n, can, e)
			}
		}
	}
}

func TestClaimsInTheExamples(t *testing.T) {
	for i, x := range []struct {
		d      find.Desk
		may    [][]int
		claims [][]int
		of     []int
	}{
		{purse(0), lists(list(0, 1), list(0)), lists(list(1), list(0)), nil},
		{purse(1), lists(list(0, 1), list(0, 1)), lists(list(1), list(0, 1)), list(1)},
		{sized(1, 2, 3), lists(list(0, 1, 2), list(0, 1, 2)), lists(list(0, 1), list(0, 1), list(0, 1)), list(0, 1, 2)},
		{sized(1, 1, 3), lists(list(0, 1, 2)), lists(list(0), list(0), list(0)), nil},
		{sized(5, 0, 2), nil, lists(nil, nil), nil},
		{sized(5, 2, 0), lists(nil, nil), nil, nil},
	} {
		for lost, want := range x.may {
			if got, e := find.May(x.d, lost); !slices.Equal(got, want) || e != api.OK {
				t.Error(i, lost, got, e)
			}
		}
		for found, want := range x.claims {
			if got, e := find.Claims(x.d, found); !slices.Equal(got, want) || e != api.OK {
				t.Error(i, found, got, e)
			}
		}
		if got, e := find.Contests(x.d); !slices.Equal(got, x.of) || e != api.OK {
			t.Error(i, got, e)
		}
	}
}

// What agrees most, but cannot be joined, does not keep a lost thing from claiming another one.
func TestWhatCannotBeJoinedIsNotClaimed(t *testing.T) {
	d := find.Desk{Weights: list(9, 1, 1), Lost: lists(list(1, 1, 1)), Found: lists(list(1, 1, 0), list(u, 1, u)), Rewards: list(0)}
	for found, want := range lists(nil, list(0)) {
		if got, e := find.Claims(d, found); !slices.Equal(got, want) || e != api.OK {
			t.Error(found, got, e)
		}
	}
}

func TestTwoThingsOfAnyDesk(t *testing.T) {
	var can, contested int
	someDesks(t, 500, largest, func(_ *rand.Rand, d find.Desk) {
		claims := make([][]int, len(d.Found))
		for lost := range d.Lost {
			var may []int
			for found := range d.Found {
				n, slips, is := agree(d, lost, found)
				a, b, c, e := find.Agree(d, lost, found)
				if a != n || b != slips || c != is || e != api.OK {
					t.Error(lost, found, a, b, c, e)
				}
				if is {
					may = append(may, found)
					can++
				}
				if claimed(d, lost, found) {
					claims[found] = append(claims[found], lost)
				}
			}
			if got, e := find.May(d, lost); !slices.Equal(got, may) || e != api.OK {
				t.Error(lost, got, may, e)
			}
		}
		var contests []int
		for found, want := range claims {
			if got, e := find.Claims(d, found); !slices.Equal(got, want) || e != api.OK {
				t.Error(found, got, want, e)
			}
			if len(want) > 1 {
				contests = append(contests, found)
				contested++
			}
		}
		if got, e := find.Contests(d); !slices.Equal(got, contests) || e != api.OK {
			t.Error(got, contests, e)
		}
	})
	if can < 1000 || contested < 100 {
		t.Error("too few things that can be joined, or are claimed by several:", can, contested)
	}
}

func TestThingsThatAreNone(t *testing.T) {
	for _, d := range []find.Desk{purse(0), sized(5, 6, 6), sized(1, 0, 0), sized(1, 3, 0), sized(1, 0, 3)} {
		for _, n := range list(math.MinInt, -1, 6, math.MaxInt) {
			_, f := find.May(d, n)
			_, g := find.Claims(d, n)
			if f != api.ErrAbsent || g != api.ErrAbsent {
				t.Error(n, f, g)
			}
			for _, m := range list(math.MinInt, -1, 0, 6, math.MaxInt) {
				_, _, _, e := find.Agree(d, n, m)
				_, _, _, f := find.Agree(d, m, n)
				_, g := find.Fates(d, n, m)
				_, h := find.Fates(d, m, n)
				if e != api.ErrAbsent || f != api.ErrAbsent || g != api.ErrAbsent || h != api.ErrAbsent {
					t.Error(n, m, e, f, g, h)
				}
			}
		}
	}
	// the first one that is none
	d := sized(1, 2, 3)
	_, _, _, e := find.Agree(d, 2, 2)
	_, _, _, f := find.Agree(d, 1, 3)
	_, g := find.May(d, 2)
	_, h := find.Claims(d, 3)
	if e != api.ErrAbsent || f != api.ErrAbsent || g != api.ErrAbsent || h != api.ErrAbsent {
		t.Error(e, f, g, h)
	}
}
