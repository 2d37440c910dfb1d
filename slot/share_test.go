package slot_test

import (
	"math"
	"math/rand"
	"slices"
	"testing"

	"oyez/api"
	"oyez/slot"
)

// P9.1, P9.2 and P9.3

func TestCheck(t *testing.T) {
	six := slices.Repeat([]slot.Notice{notice(1, 4)}, 6)
	for i, x := range []struct {
		r slot.Roll
		e api.Errno
	}{
		{court(), api.OK},
		{largest(), api.OK},
		{roll(1), api.OK},
		{roll(5), api.OK},
		{roll(1, notice(1, 0)), api.OK},
		{roll(5, six...), api.OK},
		{roll(5, notice(3, 0, 1, 2, 3, 4)), api.OK},
		{roll(5, notice(3, 1, 2, 4)), api.OK},
		{roll(5, notice(1, 0, 4)), api.OK},
		{roll(0), api.ErrCount},
		{roll(6), api.ErrCount},
		{roll(-1), api.ErrCount},
		{roll(math.MinInt), api.ErrCount},
		{roll(math.MaxInt), api.ErrCount},
		{roll(5, append(six, six[0])...), api.ErrCount},
		{roll(0, notice(0)), api.ErrCount},
		{roll(5, notice(0, 1)), api.ErrRange},
		{roll(5, notice(-1, 1)), api.ErrRange},
		{roll(5, notice(4, 0, 1, 2, 3)), api.ErrRange},
		{roll(5, notice(math.MinInt, 0)), api.ErrRange},
		{roll(5, notice(math.MaxInt, 0)), api.ErrRange},
		{roll(5, notice(0, 9)), api.ErrRange},
		{roll(5, notice(0)), api.ErrRange},
		{roll(2, notice(1, 2)), api.ErrAbsent},
		{roll(2, notice(1, -1)), api.ErrAbsent},
		{roll(2, notice(1, 0, 1, 2)), api.ErrAbsent},
		{roll(2, notice(1, 1, 0, 2)), api.ErrAbsent},
		{roll(2, notice(3, 2)), api.ErrAbsent},
		{roll(2, notice(1, math.MinInt)), api.ErrAbsent},
		{roll(2, notice(1, 0, math.MaxInt)), api.ErrAbsent},
		{roll(2, notice(1, 1, 0)), api.ErrOrder},
		{roll(2, notice(1, 1, 1)), api.ErrOrder},
		{roll(2, notice(3, 1, 0)), api.ErrOrder},
		{roll(3, notice(1, 0, 2, 1)), api.ErrOrder},
		{roll(3, notice(1, 0, 1, 1)), api.ErrOrder},
		{roll(2, notice(1)), api.ErrNone},
		{roll(2, notice(2, 1)), api.ErrNone},
		{roll(5, notice(3, 1, 4)), api.ErrNone},
		// the first notice with an error decides
		{roll(2, notice(1), notice(0)), api.ErrNone},
		{roll(2, notice(1, 1, 0), notice(1, 2)), api.ErrOrder},
		{roll(2, notice(1, 0), notice(1, 2), notice(0)), api.ErrAbsent},
		{roll(2, notice(1, 0), notice(0), notice(1, 2)), api.ErrRange},
	} {
		if e := slot.Check(x.r); e != x.e {
			t.Error(i, e)
		}
	}
}

func TestCheckShareAndLoads(t *testing.T) {
	for i, x := range []struct {
		r     slot.Roll
		share [][]int
		loads []int
		e     api.Errno
	}{
		{court(), courtShare(), list(2, 3, 2), api.OK},
		{court(), lists(list(0, 1, 2), list(0), list(0), list(0, 1)), list(4, 2, 1), api.OK},
		{court(), lists(list(0, 1, 2), list(0), list(0), list(0, 2)), list(4, 1, 2), api.OK},
		{roll(3), nil, list(0, 0, 0), api.OK},
		{roll(1, notice(1, 0), notice(1, 0)), lists(list(0), list(0)), list(2), api.OK},
		{open(5, 1), lists(list(4)), list(0, 0, 0, 0, 1), api.OK},
		{court(), nil, nil, api.ErrCount},
		{court(), lists(list(9), list(1), list(0)), nil, api.ErrCount},
		{court(), append(courtShare(), nil), nil, api.ErrCount},
		{roll(3), lists(nil), nil, api.ErrCount},
		{court(), lists(list(0, 1), list(1), list(0), list(1, 2)), nil, api.ErrCount},
		{court(), lists(list(0, 1, 2), nil, list(0), list(1, 2)), nil, api.ErrCount},
		{court(), lists(list(0, 1, 2), list(1), list(0), list(0, 1, 2)), nil, api.ErrCount},
		{court(), lists(list(7, 9), list(1), list(0), list(1, 2)), nil, api.ErrCount},
		{court(), lists(list(0, 1, 2), list(2), list(0), list(1, 2)), nil, api.ErrAbsent},
		{court(), lists(list(0, 1, 2), list(1), list(1), list(1, 2)), nil, api.ErrAbsent},
		{court(), lists(list(0, 1, 3), list(1), list(0), list(1, 2)), nil, api.ErrAbsent},
		{court(), lists(list(2, 1, -1), list(1), list(0), list(1, 2)), nil, api.ErrAbsent},
		{court(), lists(list(0, 1, 2), list(1), list(0), list(1, math.MaxInt)), nil, api.ErrAbsent},
		{court(), lists(list(0, 1, 2), list(1), list(0), list(math.MinInt, 1)), nil, api.ErrAbsent},
		{court(), lists(list(0, 2, 1), list(1), list(0), list(1, 2)), nil, api.ErrOrder},
		{court(), lists(list(0, 1, 1), list(1), list(0), list(1, 2)), nil, api.ErrOrder},
		{court(), lists(list(0, 1, 2), list(1), list(0), list(2, 1)), nil, api.ErrOrder},
		// the first notice with an error decides
		{court(), lists(list(0, 1, 1), list(2), list(0, 1), list(1, 2)), nil, api.ErrOrder},
		{court(), lists(list(0, 1, 2), list(2), list(0, 1), list(2, 1)), nil, api.ErrAbsent},
		{court(), lists(list(0, 1, 2), list(1), list(0, 1), list(2, 3)), nil, api.ErrCount},
	} {
		loads, f := slot.Loads(x.r, x.share)
		if e := slot.CheckShare(x.r, x.share); e != x.e || f != x.e || !slices.Equal(loads, x.loads) {
			t.Error(i, e, loads, f)
		}
	}
}

func TestSharesOfAnyRoll(t *testing.T) {
	someRolls(t, 1000, slot.MaxNotices, func(r *rand.Rand, x slot.Roll) {
		share := someShare(r, x)
		loads, f := slot.Loads(x, share)
		if e := slot.CheckShare(x, share); e != api.OK || f != api.OK || !slices.Equal(loads, loadsOf(x, share)) {
			t.Error(share, e, loads, f)
		}
	})
}

func TestLeast(t *testing.T) {
	for i, x := range []struct {
		r    slot.Roll
		load int
	}{
		{court(), 3},
		{largest(), 4},
		{roll(4), 0},
		{roll(1, notice(1, 0)), 1},
		{roll(1, slices.Repeat([]slot.Notice{notice(1, 0)}, 6)...), 6},
		{open(3, 3, 3, 3), 3},
		{open(5, 1, 1, 1, 1, 1), 1},
		{open(5, 1, 1, 1, 1, 1, 1), 2},
		{open(2, 1, 1, 1), 2},
		{open(5, 3, 2), 1},
		{open(5, 3, 3), 2},
		// a man must pass on a notice, and another one must, too, for him who takes it
		{roll(2, notice(1, 0, 1), notice(1, 0)), 1},
		{roll(3, notice(1, 0, 1), notice(1, 1, 2), notice(1, 0)), 1},
		{roll(4, notice(1, 0, 1), notice(1, 1, 2), notice(1, 2, 3), notice(1, 0)), 1},
		{roll(5, notice(1, 0, 1), notice(1, 1, 2), notice(1, 2, 3), notice(1, 3, 4), notice(1, 0)), 1},
		{roll(4, notice(2, 0, 1, 2), notice(2, 0, 1, 3)), 1},
		{roll(4, notice(2, 0, 1, 2), notice(2, 0, 1)), 2},
		{roll(3, notice(1, 0), notice(1, 0), notice(1, 1, 2)), 2},
		{roll(4, notice(1, 0, 1), notice(1, 0, 1), notice(1, 0, 1), notice(1, 2, 3)), 2},
	} {
		share, load, e := slot.Least(x.r)
		if load != x.load || !isShare(x.r, share) || slices.Max(loadsOf(x.r, share)) != load || e != api.OK {
			t.Error(i, share, load, e)
		}
	}
}

func TestLeastOfAnyRoll(t *testing.T) {
	var count [slot.MaxNotices + 1]int
	someRolls(t, 2000, slot.MaxNotices, func(_ *rand.Rand, x slot.Roll) {
		share, load, e := slot.Least(x)
		if !isShare(x, share) || slices.Max(loadsOf(x, share)) != load || load != leastOf(x) || e != api.OK {
			t.Error(share, load, e, leastOf(x))
		}
		count[load]++
	})
	if slices.Min(count[:]) < 10 {
		t.Error("too few rolls of a kind:", count)
	}
}

func TestNeed(t *testing.T) {
	for i, x := range []struct {
		r   slot.Roll
		men []int
		n   int
		e   api.Errno
	}{
		{court(), nil, 0, api.OK},
		{court(), list(0), 2, api.OK},
		{court(), list(1), 1, api.OK},
		{court(), list(2), 1, api.OK},
		{court(), list(0, 1), 5, api.OK},
		{court(), list(1, 0), 5, api.OK},
		{court(), list(0, 2), 4, api.OK},
		{court(), list(2, 1), 3, api.OK},
		{court(), list(2, 0, 1), 7, api.OK},
		{roll(2), list(1, 0), 0, api.OK},
		{largest(), list(0, 1), 0, api.OK},
		{largest(), list(0, 1, 4), 6, api.OK},
		{largest(), numbers(5), 18, api.OK},
		{roll(5, notice(3, 0, 1, 2)), list(3, 4), 0, api.OK},
		{roll(5, notice(3, 0, 1, 2)), list(3, 2, 4, 1), 2, api.OK},
		{court(), list(3), 0, api.ErrAbsent},
		{court(), list(-1), 0, api.ErrAbsent},
		{court(), list(math.MinInt), 0, api.ErrAbsent},
		{court(), list(0, math.MaxInt), 0, api.ErrAbsent},
		{court(), list(0, 1, 2, 3), 0, api.ErrAbsent},
		{court(), list(1, 3, 1), 0, api.ErrAbsent},
		{court(), list(3, 3), 0, api.ErrAbsent},
		{court(), list(0, 0), 0, api.ErrTwice},
		{court(), list(2, 1, 2), 0, api.ErrTwice},
		{court(), list(0, 0, 3), 0, api.ErrTwice},
		{court(), list(0, 1, 2, 0, -1), 0, api.ErrTwice},
		{roll(2), list(1, 1), 0, api.ErrTwice},
	} {
		if n, e := slot.Need(x.r, x.men); n != x.n || e != x.e {
			t.Error(i, n, e)
		}
	}
}

func TestTight(t *testing.T) {
	for i, x := range []struct {
		r   slot.Roll
		men []int
		e   api.Errno
	}{
		{court(), list(0, 1), api.OK},
		{largest(), numbers(5), api.OK},
		{roll(4), nil, api.ErrNone},
		{roll(1), nil, api.ErrNone},
		{roll(6), nil, api.ErrCount},
		{roll(2, notice(2, 0, 1)), list(0), api.OK},
		{roll(2, notice(1, 0, 1)), list(0, 1), api.OK},
		{roll(1, notice(1, 0)), list(0), api.OK},
		{roll(3, notice(1, 0), notice(1, 0), notice(1, 1, 2)), list(0), api.OK},
		{open(3, 1, 1), list(0, 1, 2), api.OK},
		{open(5, 3, 3), numbers(5), api.OK},
		// of several sets of men the smallest one
		{roll(3, notice(1, 0, 1), notice(1, 0, 1), notice(1, 0, 1)), list(0, 1), api.OK},
		{roll(3, notice(1, 0, 1), notice(1, 0, 1), notice(1, 2), notice(1, 2)), list(2), api.OK},
		{open(4, 3, 3), list(0, 1, 2), api.OK},
		// of several of the smallest sets the first one
		{roll(3, notice(1, 1), notice(1, 2)), list(1), api.OK},
		{roll(3, notice(1, 2), notice(1, 1), notice(1, 1), notice(1, 2)), list(1), api.OK},
		{roll(4, notice(1, 1, 2), notice(1, 1, 2), notice(1, 1, 2), notice(1, 0, 3), notice(1, 0, 3), notice(1, 0, 3)), list(0, 3), api.OK},
		{roll(4, notice(1, 2, 3), notice(1, 2, 3), notice(1, 2, 3), notice(1, 1, 2), notice(1, 1, 2), notice(1, 1, 2)), list(1, 2), api.OK},
	} {
		if men, e := slot.Tight(x.r); !slices.Equal(men, x.men) || e != x.e {
			t.Error(i, men, e)
		}
	}
}

func TestProofsOfAnyRoll(t *testing.T) {
	var count [slot.MaxMen + 1]int
	someRolls(t, 2000, slot.MaxNotices, func(_ *rand.Rand, x slot.Roll) {
		for _, set := range bySize(x.Men) {
			slices.Reverse(set)
			if n, e := slot.Need(x, set); n != needOf(x, set) || e != api.OK {
				t.Error(set, n, e)
			}
		}
		want, e := api.OK, api.OK
		if len(x.Notices) == 0 {
			want = api.ErrNone
		}
		men, e := slot.Tight(x)
		if best, _ := tightOf(x); !slices.Equal(men, best) || e != want {
			t.Error(men, e, best)
		}
		count[len(men)]++
	})
	if slices.Min(count[:]) < 20 {
		t.Error("too few rolls of a kind:", count)
	}
}
