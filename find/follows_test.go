package find_test

import (
	"math/rand"
	"slices"
	"testing"

	"oyez/api"
	"oyez/find"
)

// P6.7 and P0.7

func TestPricesProveWhatIsBest(t *testing.T) {
	someDesks(t, 500, largest, func(r *rand.Rand, d find.Desk) {
		joins, n, e := find.Best(d)
		if m, f := find.Worth(d, joins); m != n || e != api.OK || f != api.OK {
			t.Error(joins, n, m, e, f)
		}
		lost, found, e := find.Prices(d)
		if m, f := find.Shows(d, lost, found); m != n || e != api.OK || f != api.OK {
			t.Error(lost, found, n, m, e, f)
		}
		rich, most, e := find.Richest(d)
		m, f := find.Worth(d, rich)
		told, g := find.Reward(d, rich)
		if less, h := find.Reward(d, joins); m != n || told != most || less > most || e != api.OK || f != api.OK || g != api.OK || h != api.OK {
			t.Error(rich, m, n, told, most, less, e, f, g, h)
		}
	})
}

func TestJoinsAreBestJustIfNoChangeBettersThem(t *testing.T) {
	someDesks(t, 300, largest, func(r *rand.Rand, d find.Desk) {
		best, n, _ := find.Best(d)
		if got, e := find.Change(d, best); len(got) > 0 || e != api.ErrNone {
			t.Error(best, got, e)
		}
		joins := slices.Repeat(list(none), len(d.Lost))
		for worth := 0; worth < n; {
			better, e := find.Change(d, joins)
			m, f := find.Worth(d, better)
			if m <= worth || e != api.OK || f != api.OK {
				t.Fatal(joins, better, worth, m, e, f)
			}
			joins, worth = better, m
		}
		if got, e := find.Change(d, joins); len(got) > 0 || e != api.ErrNone {
			t.Error(joins, got, e)
		}
	})
}

func TestAFoundThingMoreOrASlipMore(t *testing.T) {
	var more, forgiven int
	someDesks(t, 500, largest, func(r *rand.Rand, d find.Desk) {
		_, n, _ := find.Best(d)
		for found := range d.Found {
			_, m, e := find.Best(without(d, found))
			if m > n || e != api.OK {
				t.Error(found, m, n, e)
			}
			if m < n {
				more++
			}
		}
		if d.Slips < find.MaxSlips {
			d.Slips++
			_, m, e := find.Best(d)
			if m < n || e != api.OK {
				t.Error(m, n, e)
			}
			if m > n {
				forgiven++
			}
		}
	})
	if more < 100 || forgiven < 50 {
		t.Error("too few desks that this makes better:", more, forgiven)
	}
}

func TestNobodyIsLeftWhoCouldBeJoined(t *testing.T) {
	left := 0
	someDesks(t, 500, largest, func(_ *rand.Rand, d find.Desk) {
		best, _, _ := find.Best(d)
		rich, _, _ := find.Richest(d)
		for _, joins := range [][]int{best, rich} {
			for lost, with := range joins {
				may, e := find.May(d, lost)
				for _, found := range may {
					if with == none && !slices.Contains(joins, found) || e != api.OK {
						t.Error(joins, lost, found, e)
					}
				}
				if with == none && len(may) > 0 {
					left++
				}
			}
		}
	})
	if left < 100 {
		t.Error("too few lost things that are left:", left)
	}
}

func TestFatesAreThoseOfBestJoins(t *testing.T) {
	someDesks(t, 300, largest, func(_ *rand.Rand, d find.Desk) {
		best, _, _ := find.Best(d)
		rich, _, _ := find.Richest(d)
		ways, _ := find.Count(d)
		open := 0
		for lost := range d.Lost {
			for found := range d.Found {
				got, e := find.Fates(d, lost, found)
				for _, joins := range [][]int{best, rich} {
					if is := joins[lost] == found; got == find.Always && !is || got == find.Never && is || e != api.OK {
						t.Error(joins, lost, found, got, e)
					}
				}
				if got == find.Open {
					open++
				}
			}
		}
		if (ways > 1) != (open > 0) {
			t.Error(ways, open)
		}
	})
}

func TestWhatIsNotJoinedIsSpare(t *testing.T) {
	someDesks(t, 500, largest, func(_ *rand.Rand, d find.Desk) {
		best, _, _ := find.Best(d)
		rich, _, _ := find.Richest(d)
		spare, e := find.Spare(d)
		for found := range d.Found {
			isLeft := !slices.Contains(best, found) || !slices.Contains(rich, found)
			if isLeft && !slices.Contains(spare, found) || e != api.OK {
				t.Error(found, best, rich, spare, e)
			}
		}
	})
}

func TestTheAnswerLeavesNoMoreThanAskTells(t *testing.T) {
	someDesks(t, 300, largest, func(r *rand.Rand, d find.Desk) {
		found, trait, most, e := find.Ask(d)
		if e == api.ErrNone {
			return
		}
		greatest := 0
		for value := range find.MaxValue + 1 {
			told, e := find.With(d, found, trait, value)
			n, f := find.Count(told)
			if e != api.OK || f != api.OK {
				t.Error(e, f)
			}
			greatest = max(greatest, n)
		}
		if greatest != most {
			t.Error(found, trait, most, greatest)
		}
	})
}
