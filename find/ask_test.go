package find_test

import (
	"math"
	"math/rand"
	"testing"

	"oyez/api"
	"oyez/find"
)

// P6.6

func TestWith(t *testing.T) {
	for i, x := range []struct {
		found, trait, value int
		e                   api.Errno
	}{
		{0, 1, 0, api.OK},
		{0, 2, 5, api.OK},
		{1, 2, 3, api.OK},
		{2, 1, 2, api.ErrAbsent},
		{-1, 1, 2, api.ErrAbsent},
		{0, 3, 2, api.ErrAbsent},
		{0, -1, 2, api.ErrAbsent},
		{math.MaxInt, math.MinInt, 9, api.ErrAbsent},
		{0, 0, 2, api.ErrTwice},
		{1, 1, 1, api.ErrTwice},
		{1, 1, 9, api.ErrTwice},
		{1, 1, u, api.ErrTwice},
		{0, 1, 6, api.ErrRange},
		{0, 1, u, api.ErrRange},
		{1, 2, math.MinInt, api.ErrRange},
		{1, 2, math.MaxInt, api.ErrRange},
	} {
		got, e := find.With(purse(2), x.found, x.trait, x.value)
		if e != x.e || e != api.OK && !zero([]any{got}) {
			t.Error(i, got, e)
		}
		if e == api.OK && !same(got, known(purse(2), x.found, x.trait, x.value)) {
			t.Error(i, got)
		}
	}
}

func TestWithOfAnyDesk(t *testing.T) {
	someDesks(t, 200, largest, func(r *rand.Rand, d find.Desk) {
		for _, b := range blanks(d) {
			value := r.Intn(find.MaxValue + 1)
			if got, e := find.With(d, b[0], b[1], value); !same(got, known(d, b[0], b[1], value)) || e != api.OK {
				t.Error(b, value, got, e)
			}
		}
	})
}

// A desk may have the same list twice; With changes one thing all the same.
func TestWithChangesOneThing(t *testing.T) {
	d := sized(2, 2, 3)
	thing := list(1, u)
	d.Lost, d.Found = lists(thing, thing), lists(thing, thing, thing)
	got, e := find.With(d, 1, 1, 4)
	d.Found = lists(list(1, u), list(1, 4), list(1, u))
	if !same(got, d) || e != api.OK {
		t.Error(got, e)
	}
}

func TestAsk(t *testing.T) {
	twins := sized(2, 2, 2)
	twins.Found = lists(list(1, u), list(1, u))
	for i, x := range []struct {
		d                  find.Desk
		found, trait, most int
		e                  api.Errno
	}{
		{purse(0), 0, 2, 1, api.OK},
		{purse(1), 0, 2, 1, api.OK},
		{twins, 0, 1, 2, api.OK},
		{find.Desk{Weights: list(1, 2), Found: lists(list(0, 1), list(3, u), list(u, u))}, 1, 1, 1, api.OK},
		{sized(2, 2, 2), 0, 0, 0, api.ErrNone},
		{sized(2, 2, 0), 0, 0, 0, api.ErrNone},
		{sized(2, 0, 2), 0, 0, 0, api.ErrNone},
	} {
		if found, trait, most, e := find.Ask(x.d); found != x.found || trait != x.trait || most != x.most || e != x.e {
			t.Error(i, found, trait, most, e)
		}
	}
}

// What a lost thing has that is not known does not matter.
func TestAskIsAboutFoundThings(t *testing.T) {
	d := sized(2, 2, 2)
	d.Lost[0] = list(1, u)
	if found, trait, most, e := find.Ask(d); found != 0 || trait != 0 || most != 0 || e != api.ErrNone {
		t.Error(found, trait, most, e)
	}
}

// The greatest value is one that a trait can have: with 5 there are two best joins, with any other one there is one.
func TestAskAsksForAllValues(t *testing.T) {
	for value := range find.MaxValue + 1 {
		d := find.Desk{Weights: list(2, 1, 1), Lost: lists(list(1, u, value), list(1, 3, u)), Found: lists(list(1, 3, u)), Rewards: list(0, 0)}
		if found, trait, most, e := find.Ask(d); found != 0 || trait != 2 || most != 2 || e != api.OK {
			t.Error(value, found, trait, most, e)
		}
	}
}

func checkAsk(t *testing.T, d find.Desk) (int, api.Errno) {
	t.Helper()
	var best [2]int
	fewest, want := 0, api.ErrNone
	for _, b := range blanks(d) {
		most := 0
		for value := range find.MaxValue + 1 {
			joins, _ := bestJoins(known(d, b[0], b[1], value))
			most = max(most, len(joins))
		}
		if want == api.ErrNone || most < fewest {
			best, fewest, want = b, most, api.OK
		}
	}
	found, trait, most, e := find.Ask(d)
	if found != best[0] || trait != best[1] || most != fewest || e != want {
		t.Error(found, trait, most, e, best, fewest, want)
	}
	return fewest, want
}

func TestAskOfAnyDesk(t *testing.T) {
	count := map[int]int{}
	for _, most := range []sizes{small, {find.MaxTraits, find.MaxThings, 40}} {
		someDesks(t, 500, most, func(_ *rand.Rand, d find.Desk) {
			if n, e := checkAsk(t, d); e == api.OK {
				count[n]++
			} else {
				count[0]++
			}
		})
	}
	if count[0] < 50 || count[1] < 50 || count[2] < 50 || count[3] < 10 {
		t.Error("too few desks of a kind:", count)
	}
}

func TestAskWhereAllThingsAreAlike(t *testing.T) {
	if found, trait, most, e := find.Ask(alike()); found != 0 || trait != 1 || most != 720 || e != api.OK {
		t.Error(found, trait, most, e)
	}
}
