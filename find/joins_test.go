package find_test

import (
	"math/rand"
	"slices"
	"testing"

	"oyez/api"
	"oyez/find"
)

// P6.3 and P6.4

func TestWorthAndReward(t *testing.T) {
	for i, x := range []struct {
		d             find.Desk
		joins         []int
		worth, reward int
		e             api.Errno
	}{
		{purse(0), list(1, 0), 13, 50, api.OK},
		{purse(0), list(0, none), 5, 10, api.OK},
		{purse(0), list(none, 0), 5, 40, api.OK},
		{purse(0), list(none, none), 0, 0, api.OK},
		{purse(1), list(0, 1), 10, 50, api.OK},
		{purse(0), nil, 0, 0, api.ErrCount},
		{purse(0), list(1), 0, 0, api.ErrCount},
		{purse(0), list(1, 0, none), 0, 0, api.ErrCount},
		{purse(0), list(9, 9, 9), 0, 0, api.ErrCount},
		{purse(0), list(2, none), 0, 0, api.ErrAbsent},
		{purse(0), list(0, -2), 0, 0, api.ErrAbsent},
		{purse(1), list(1, 1), 0, 0, api.ErrTwice},
		{purse(0), list(1, 1), 0, 0, api.ErrTwice},
		{purse(0), list(0, 1), 0, 0, api.ErrFalse},
		{purse(0), list(none, 1), 0, 0, api.ErrFalse},
		{sized(1, 3, 3), list(2, none, 2), 0, 0, api.ErrTwice},
		{sized(1, 3, 3), list(1, 1, 3), 0, 0, api.ErrAbsent},
		{sized(1, 0, 3), nil, 0, 0, api.OK},
		{sized(1, 0, 3), list(none), 0, 0, api.ErrCount},
		{sized(1, 2, 0), list(none, none), 0, 0, api.OK},
		{sized(1, 2, 0), list(none, 0), 0, 0, api.ErrAbsent},
	} {
		n, e := find.Worth(x.d, x.joins)
		m, f := find.Reward(x.d, x.joins)
		if n != x.worth || m != x.reward || e != x.e || f != x.e {
			t.Error(i, n, m, e, f)
		}
	}
}

func TestBestInTheExamples(t *testing.T) {
	for i, x := range []struct {
		d             find.Desk
		joins         []int
		worth, reward int
	}{
		{purse(0), list(1, 0), 13, 50},
		{purse(1), list(1, 0), 13, 50},
		{sized(2, 0, 0), nil, 0, 0},
		{sized(2, 0, 2), nil, 0, 0},
		{sized(2, 2, 0), list(none, none), 0, 0},
		{known(sized(1, 1, 2), 0, 0, 0), list(1), 2, 0},
	} {
		joins, n, e := find.Best(x.d)
		rich, m, f := find.Richest(x.d)
		count, g := find.Count(x.d)
		if !slices.Equal(joins, x.joins) || !slices.Equal(rich, x.joins) || n != x.worth || m != x.reward || count != 1 || e != api.OK || f != api.OK || g != api.OK {
			t.Error(i, joins, n, rich, m, count, e, f, g)
		}
	}
}

// Who has the greatest reward, but is not joined in any best joins, is left.
func TestRichestAreBest(t *testing.T) {
	d := find.Desk{Weights: list(9, 1), Lost: lists(list(1, u), list(u, 1), list(1, u)), Found: lists(list(1, 1))}
	for i, x := range []struct{ rewards, joins []int }{
		{list(3, 99, 4), list(none, none, 0)},
		{list(4, 99, 3), list(0, none, none)},
		{list(99, 99, 98), list(0, none, none)},
		{list(0, 99, 1), list(none, none, 0)},
	} {
		d.Rewards = x.rewards
		if joins, n, e := find.Richest(d); !slices.Equal(joins, x.joins) || n != reward(d, x.joins) || e != api.OK {
			t.Error(i, joins, n, e)
		}
	}
}

// The greatest reward does not outweigh an agreement that is greater by 1.
func TestRewardsDoNotOutweighAgreements(t *testing.T) {
	d := find.Desk{Weights: list(9, 4, 4), Lost: lists(list(1, 1, u), list(u, u, 1)), Found: lists(list(1, u, 1), list(u, 1, u))}
	for i, n := range list(0, 99) {
		d.Rewards = list(n, 99)
		if joins, m, e := find.Richest(d); !slices.Equal(joins, list(0, none)) || m != n || e != api.OK {
			t.Error(i, joins, m, e)
		}
	}
	d.Weights[2] = 5
	if joins, n, e := find.Richest(d); !slices.Equal(joins, list(1, 0)) || n != 198 || e != api.OK {
		t.Error(joins, n, e)
	}
}

func TestJoinsOfAnyDesk(t *testing.T) {
	several := 0
	someDesks(t, 500, largest, func(r *rand.Rand, d find.Desk) {
		all := allJoins(d)
		best, most := bestOf(d, all)
		if n, e := find.Count(d); n != len(best) || e != api.OK {
			t.Error(n, len(best), e)
		}
		joins, n, e := find.Best(d)
		if !isJoins(d, joins) || worth(d, joins) != most || n != most || e != api.OK {
			t.Error(joins, n, most, e)
		}
		richest := 0
		for _, joins := range best {
			richest = max(richest, reward(d, joins))
		}
		joins, n, e = find.Richest(d)
		if !isJoins(d, joins) || worth(d, joins) != most || reward(d, joins) != richest || n != richest || e != api.OK {
			t.Error(joins, n, richest, most, e)
		}
		for range 10 {
			joins := all[r.Intn(len(all))]
			n, e := find.Worth(d, joins)
			m, f := find.Reward(d, joins)
			if n != worth(d, joins) || m != reward(d, joins) || e != api.OK || f != api.OK {
				t.Error(joins, n, m, e, f)
			}
		}
		if len(best) > 1 {
			several++
		}
	})
	if several < 100 {
		t.Error("too few desks with several best joins:", several)
	}
}

// errorOfJoins returns that of any list, asked as a whole for each error.
func errorOfJoins(d find.Desk, joins []int) api.Errno {
	if len(joins) != len(d.Lost) {
		return api.ErrCount
	}
	taken, e := map[int]int{}, api.OK
	for lost, found := range joins {
		if found != none && (found < 0 || found >= len(d.Found)) {
			return api.ErrAbsent
		}
		taken[found]++
		if found != none && !canJoin(d, lost, found) {
			e = api.ErrFalse
		}
	}
	for found, n := range taken {
		if found != none && n > 1 {
			e = api.ErrTwice
		}
	}
	return e
}

func TestErrorsOfAnyJoins(t *testing.T) {
	count := map[api.Errno]int{}
	someDesks(t, 500, largest, func(r *rand.Rand, d find.Desk) {
		for range 20 {
			joins := make([]int, len(d.Lost))
			if r.Intn(8) == 0 {
				joins = make([]int, r.Intn(8))
			}
			for lost := range joins {
				joins[lost] = r.Intn(len(d.Found)+1) - 1
				if r.Intn(20) == 0 {
					joins[lost] = r.Intn(10) - 3
				}
			}
			want := errorOfJoins(d, joins)
			_, e := find.Worth(d, joins)
			_, f := find.Reward(d, joins)
			_, g := find.Change(d, joins)
			if e != want || f != want || g != want && (want != api.OK || g != api.ErrNone) {
				t.Error(joins, want, e, f, g)
			}
			count[want]++
		}
	})
	for _, e := range []api.Errno{api.OK, api.ErrCount, api.ErrAbsent, api.ErrTwice, api.ErrFalse} {
		if count[e] < 100 {
			t.Error("too few joins with an error:", e, count)
		}
	}
}

func TestAllThingsAlike(t *testing.T) {
	d := alike()
	if n, e := find.Count(d); n != 720 || e != api.OK {
		t.Error(n, e)
	}
	if _, n, e := find.Best(d); n != 6 || e != api.OK {
		t.Error(n, e)
	}
	if _, n, e := find.Richest(d); n != 114 || e != api.OK {
		t.Error(n, e)
	}
	d.Found = d.Found[:2]
	if n, e := find.Count(d); n != 30 || e != api.OK {
		t.Error(n, e)
	}
	if joins, n, e := find.Richest(d); n != 104 || joins[4] == none || joins[5] == none || e != api.OK {
		t.Error(joins, n, e)
	}
}

func TestShows(t *testing.T) {
	for i, x := range []struct {
		d           find.Desk
		lost, found []int
		n           int
		e           api.Errno
	}{
		{purse(0), list(3, 0), list(5, 5), 13, api.OK},
		{purse(0), list(8, 5), list(0, 0), 13, api.OK},
		{purse(0), list(0, 0), list(5, 8), 13, api.OK},
		{purse(0), list(999, 999), list(999, 999), 3996, api.OK},
		{purse(0), list(3, 0), list(5, 4), 0, api.ErrFalse},
		{purse(0), list(3, 0), list(4, 5), 0, api.ErrFalse},
		{purse(0), list(0, 0), list(999, 7), 0, api.ErrFalse},
		// lost thing 1 and found thing 1 must be paid for only if they can be joined
		{purse(0), list(8, 0), list(5, 0), 13, api.OK},
		{purse(1), list(8, 0), list(5, 0), 0, api.ErrFalse},
		{purse(0), list(3, 1000), list(5, 5), 0, api.ErrRange},
		{purse(0), list(3, 0), list(-1, 5), 0, api.ErrRange},
		{purse(0), list(-1, 0), list(0, 0), 0, api.ErrRange},
		{purse(0), list(3), list(5, 5), 0, api.ErrCount},
		{purse(0), list(3, 0, 0), list(5, 5), 0, api.ErrCount},
		{purse(0), list(3, 0), list(5), 0, api.ErrCount},
		{purse(0), list(3, -1), list(5, 5, 5), 0, api.ErrCount},
		{purse(0), list(3, 0, 5), list(5), 0, api.ErrCount},
		{sized(1, 0, 0), nil, nil, 0, api.OK},
		{sized(1, 2, 0), list(3, 4), nil, 7, api.OK},
		{sized(1, 0, 2), nil, list(3, 4), 7, api.OK},
	} {
		if n, e := find.Shows(x.d, x.lost, x.found); n != x.n || e != x.e {
			t.Error(i, n, e)
		}
	}
}

func TestPrices(t *testing.T) {
	positive := 0
	someDesks(t, 1000, largest, func(r *rand.Rand, d find.Desk) {
		_, most := bestJoins(d)
		lost, found, e := find.Prices(d)
		if len(lost) != len(d.Lost) || len(found) != len(d.Found) || e != api.OK {
			t.Fatal(lost, found, e)
		}
		both := slices.Concat(lost, found)
		if !hold(d, lost, found) || sum(both...) != most || slices.ContainsFunc(both, func(n int) bool { return n < 0 || n > 999 }) {
			t.Error(lost, found, most)
		}
		if n, e := find.Shows(d, lost, found); n != most || e != api.OK {
			t.Error(lost, found, n, e)
		}
		if slices.ContainsFunc(lost, func(n int) bool { return n > 0 }) && slices.ContainsFunc(found, func(n int) bool { return n > 0 }) {
			positive++
		}
	})
	if positive < 100 {
		t.Error("too few prices of both kinds:", positive)
	}
}

func TestShowsOfAnyPrices(t *testing.T) {
	var count [2]int
	someDesks(t, 500, largest, func(r *rand.Rand, d find.Desk) {
		for range 10 {
			lost, found, _ := find.Prices(d)
			for i := range lost {
				lost[i] = max(0, lost[i]+r.Intn(7)/2-1)
			}
			for i := range found {
				found[i] = max(0, found[i]+r.Intn(7)/2-1)
			}
			n, e := find.Shows(d, lost, found)
			if hold(d, lost, found) {
				count[0]++
				if n != sum(slices.Concat(lost, found)...) || e != api.OK {
					t.Error(lost, found, n, e)
				}
			} else {
				count[1]++
				if n != 0 || e != api.ErrFalse {
					t.Error(lost, found, n, e)
				}
			}
		}
	})
	if slices.Min(count[:]) < 500 {
		t.Error("too few prices that hold, or do not:", count)
	}
}
