package find_test

import (
	"math/rand"
	"slices"
	"testing"

	"oyez/api"
	"oyez/find"
)

// P6.5

func TestChange(t *testing.T) {
	cross := find.Desk{Weights: list(3, 2), Slips: 1, Lost: lists(list(0, 0), list(1, 1)), Found: lists(list(0, 1), list(1, 0)), Rewards: list(0, 0)}
	for i, x := range []struct {
		d     find.Desk
		joins []int
		want  []int
		e     api.Errno
	}{
		{purse(0), list(0, none), list(1, none), api.OK},
		{purse(0), list(1, none), list(1, 0), api.OK},
		{purse(0), list(1, 0), nil, api.ErrNone},
		{purse(1), list(0, 1), list(1, 0), api.OK},
		{purse(1), list(none, 0), list(1, 0), api.OK},
		{cross, list(1, 0), list(0, 1), api.OK},
		{cross, list(0, 1), nil, api.ErrNone},
		{sized(1, 0, 2), nil, nil, api.ErrNone},
		{sized(1, 2, 0), list(none, none), nil, api.ErrNone},
		{sized(1, 3, 2), list(0, none, 1), nil, api.ErrNone},
	} {
		if got, e := find.Change(x.d, x.joins); !slices.Equal(got, x.want) || e != x.e {
			t.Error(i, got, e)
		}
	}
}

// round returns a desk with as many lost things as found ones, each of which agrees in little with one, and in more with
// the next one; so all or nothing must be changed.
func round(many int) find.Desk {
	d := find.Desk{Weights: list(5, 6), Slips: 3, Rewards: make([]int, many)}
	for n := range many {
		d.Lost = append(d.Lost, list(n, n))
		d.Found = append(d.Found, list(n, (n+many-1)%many))
	}
	return d
}

func TestSomeMustBeChangedAtOnce(t *testing.T) {
	for many := 2; many <= find.MaxThings; many++ {
		var joins, want []int
		for n := range many {
			joins = append(joins, n)
			want = append(want, (n+1)%many)
		}
		if got, e := find.Change(round(many), joins); !slices.Equal(got, want) || e != api.OK {
			t.Error(many, got, e)
		}
	}
}

// Who is joined with nothing any more is changed, too.
func TestChangesThatPart(t *testing.T) {
	d := find.Desk{Weights: list(9, 4), Lost: lists(list(u, 1), list(1, u)), Found: lists(list(1, 1)), Rewards: list(99, 0)}
	if got, e := find.Change(d, list(0, none)); !slices.Equal(got, list(none, 0)) || e != api.OK {
		t.Error(got, e)
	}
}

func TestChangeOfAnyJoins(t *testing.T) {
	count := map[int]int{}
	someDesks(t, 500, largest, func(r *rand.Rand, d find.Desk) {
		all := allJoins(d)
		for range 8 {
			joins := all[r.Intn(len(all))]
			fewest, n := 7, worth(d, joins)
			for _, other := range all {
				if worth(d, other) > n {
					fewest = min(fewest, changes(joins, other))
				}
			}
			got, e := find.Change(d, joins)
			if fewest == 7 {
				if len(got) > 0 || e != api.ErrNone {
					t.Error(joins, got, e)
				}
			} else if e != api.OK || !isJoins(d, got) || worth(d, got) <= n || changes(joins, got) != fewest {
				t.Error(joins, got, fewest, e)
			}
			count[fewest]++
		}
	})
	if count[7] < 200 || count[1] < 200 || count[2] < 20 {
		t.Error("too few joins of a kind:", count)
	}
}

func TestFates(t *testing.T) {
	const o, a, n = find.Open, find.Always, find.Never
	for i, x := range []struct {
		d    find.Desk
		want [][]find.Fate
	}{
		{purse(0), [][]find.Fate{{n, a}, {a, n}}},
		{purse(1), [][]find.Fate{{n, a}, {a, n}}},
		{known(purse(0), 0, 1, 1), [][]find.Fate{{o, o}, {n, n}}},
		{sized(1, 1, 1), [][]find.Fate{{a}}},
		{sized(1, 2, 1), [][]find.Fate{{o}, {o}}},
		{sized(1, 1, 2), [][]find.Fate{{o, o}}},
		{sized(1, 2, 2), [][]find.Fate{{o, o}, {o, o}}},
		{known(sized(1, 2, 2), 0, 0, 0), [][]find.Fate{{n, o}, {n, o}}},
	} {
		for lost, fates := range x.want {
			for found, want := range fates {
				if got, e := find.Fates(x.d, lost, found); got != want || e != api.OK {
					t.Error(i, lost, found, got, e)
				}
			}
		}
	}
}

// fate returns that of two things, by going through all best joins.
func fate(best [][]int, lost, found int) find.Fate {
	n := 0
	for _, joins := range best {
		if joins[lost] == found {
			n++
		}
	}
	switch n {
	case 0:
		return find.Never
	case len(best):
		return find.Always
	}
	return find.Open
}

func TestFatesOfAnyDesk(t *testing.T) {
	var count [3]int
	someDesks(t, 300, largest, func(_ *rand.Rand, d find.Desk) {
		best, _ := bestJoins(d)
		for lost := range d.Lost {
			for found := range d.Found {
				want := fate(best, lost, found)
				if got, e := find.Fates(d, lost, found); got != want || e != api.OK {
					t.Error(lost, found, got, want, e)
				}
				count[want]++
			}
		}
	})
	if slices.Min(count[:]) < 200 {
		t.Error("too few fates of a kind:", count)
	}
}

func TestSpare(t *testing.T) {
	for i, x := range []struct {
		d    find.Desk
		want []int
	}{
		{purse(0), nil},
		{purse(1), nil},
		{known(purse(0), 0, 1, 1), list(0, 1)},
		{known(purse(0), 1, 1, 2), nil},
		{sized(1, 2, 3), list(0, 1, 2)},
		{known(sized(1, 2, 3), 1, 0, 0), list(1)},
		{known(sized(1, 1, 3), 1, 0, 0), list(0, 1, 2)},
		{sized(1, 3, 3), nil},
		{sized(1, 0, 3), list(0, 1, 2)},
		{sized(1, 3, 0), nil},
		{sized(1, 0, 0), nil},
	} {
		if got, e := find.Spare(x.d); !slices.Equal(got, x.want) || e != api.OK {
			t.Error(i, got, e)
		}
	}
}

func TestSpareOfAnyDesk(t *testing.T) {
	var count [2]int
	someDesks(t, 500, largest, func(_ *rand.Rand, d find.Desk) {
		_, most := bestJoins(d)
		var want []int
		for found := range d.Found {
			if _, n := bestJoins(without(d, found)); n == most {
				want = append(want, found)
			}
		}
		if got, e := find.Spare(d); !slices.Equal(got, want) || e != api.OK {
			t.Error(got, want, e)
		}
		count[0] += len(want)
		count[1] += len(d.Found) - len(want)
	})
	if slices.Min(count[:]) < 200 {
		t.Error("too few found things of a kind:", count)
	}
}
