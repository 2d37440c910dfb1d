package slot_test

import (
	"math"
	"math/rand"
	"slices"
	"testing"

	"oyez/api"
	"oyez/slot"
)

// P9.7

func TestMustsAndSpare(t *testing.T) {
	for i, x := range []struct {
		r     slot.Roll
		musts [][]int
		spare []int
	}{
		{court(), lists(list(0, 1, 2), nil, list(0), nil), nil},
		{largest(), lists(nil, nil, nil, nil, nil, nil), nil},
		{roll(2), nil, list(0, 1)},
		{roll(1), nil, list(0)},
		{roll(1, notice(1, 0)), lists(list(0)), nil},
		{roll(4, notice(1, 2)), lists(list(2)), list(0, 1, 3)},
		{roll(4, notice(1, 2, 3)), lists(nil), list(0, 1, 2, 3)},
		{roll(4, notice(2, 2, 3)), lists(list(2, 3)), list(0, 1)},
		{open(3, 1, 1), lists(nil, nil), list(0, 1, 2)},
		{open(3, 1, 1, 1), lists(nil, nil, nil), nil},
		{open(3, 1, 1, 1, 1), lists(nil, nil, nil, nil), list(0, 1, 2)},
		// man 0 must cry notice 1, so man 1 must cry the other one
		{roll(2, notice(1, 0, 1), notice(1, 0)), lists(list(1), list(0)), nil},
		{roll(3, notice(1, 0, 1), notice(1, 1, 2), notice(1, 0)), lists(list(1), list(2), list(0)), nil},
		{roll(4, notice(1, 0, 1), notice(1, 1, 2, 3), notice(1, 0)), lists(list(1), nil, list(0)), list(2, 3)},
		{roll(3, notice(1, 0), notice(1, 0), notice(1, 1, 2)), lists(list(0), list(0), nil), list(1, 2)},
		{roll(3, notice(1, 0), notice(1, 0), notice(1, 0, 1)), lists(list(0), list(0), list(1)), list(2)},
		// the men 1 and 2 can cry all of it, but neither the men 0 and 1 nor the men 0 and 2
		{roll(3, notice(2, 0, 1, 2), notice(1, 1, 2), notice(1, 1, 2)), lists(nil, nil, nil), list(0)},
		{roll(3, notice(2, 0, 1, 2), notice(1, 1, 2)), lists(list(0), nil), nil},
		{roll(3, notice(3, 0, 1, 2), notice(1, 1, 2)), lists(list(0, 1, 2), nil), nil},
	} {
		musts, e := slot.Musts(x.r)
		spare, f := slot.Spare(x.r)
		if !same(musts, x.musts) || e != api.OK {
			t.Error(i, musts, e)
		}
		if !slices.Equal(spare, x.spare) || f != api.OK {
			t.Error(i, spare, f)
		}
	}
}

func TestMustsAndSpareOfAnyRoll(t *testing.T) {
	var must, can [slot.MaxMen + 1]int
	someRolls(t, 2500, slot.MaxNotices, func(_ *rand.Rand, x slot.Roll) {
		spare, e := slot.Spare(x)
		if want := spareOf(x); !slices.Equal(spare, want) || e != api.OK {
			t.Error(spare, e, want)
		}
		can[len(spare)]++
		if manyShares(x) > 3000 {
			return
		}
		musts, e := slot.Musts(x)
		if want := mustsOf(x); !same(musts, want) || e != api.OK {
			t.Error(musts, e, want)
		}
		for i, men := range musts {
			if len(x.Notices[i].Men) > x.Notices[i].Times {
				must[len(men)]++
			}
		}
	})
	if slices.Min(must[:slot.MaxTimes+1]) < 5 || slices.Min(can[:]) < 10 {
		t.Error("too few rolls of a kind:", must, can)
	}
}

func TestMore(t *testing.T) {
	for i, x := range []struct {
		r      slot.Roll
		notice int
		times  int
		e      api.Errno
	}{
		{court(), 0, 3, api.OK},
		{court(), 1, 2, api.OK},
		{court(), 2, 1, api.OK},
		{court(), 3, 3, api.OK},
		{largest(), 5, 3, api.OK},
		{open(3, 1, 1), 0, 1, api.OK},
		{open(3, 2, 1), 1, 2, api.OK},
		{open(3, 3, 1), 1, 3, api.OK},
		{open(3, 1, 2), 0, 2, api.OK},
		{open(5, 3), 0, 3, api.OK},
		{open(5, 3, 1), 1, 3, api.OK},
		{open(2, 2, 1), 1, 2, api.OK},
		{open(2, 1, 1, 1), 0, 2, api.OK},
		{open(2, 1, 1), 0, 1, api.OK},
		{roll(4, notice(1, 0, 1, 2, 3), notice(1, 0), notice(1, 0)), 0, 2, api.OK},
		{roll(4, notice(1, 0, 1, 2, 3), notice(1, 0), notice(1, 0), notice(1, 0)), 0, 3, api.OK},
		{roll(4, notice(1, 0, 1), notice(1, 0), notice(1, 0), notice(1, 0)), 0, 1, api.OK},
		{roll(1, notice(1, 0)), 0, 1, api.OK},
		{court(), 4, 0, api.ErrAbsent},
		{court(), -1, 0, api.ErrAbsent},
		{court(), math.MinInt, 0, api.ErrAbsent},
		{court(), math.MaxInt, 0, api.ErrAbsent},
		{roll(2), 0, 0, api.ErrAbsent},
	} {
		if times, e := slot.More(x.r, x.notice); times != x.times || e != x.e {
			t.Error(i, times, e)
		}
	}
}

func TestMoreOfAnyRoll(t *testing.T) {
	var count [slot.MaxTimes]int
	someRolls(t, 1000, slot.MaxNotices, func(_ *rand.Rand, x slot.Roll) {
		for i, n := range x.Notices {
			times, e := slot.More(x, i)
			if want := moreOf(x, i); times != want || e != api.OK {
				t.Error(i, times, e, want)
			}
			count[times-n.Times]++
		}
	})
	if slices.Min(count[:]) < 50 {
		t.Error("too few notices of a kind:", count)
	}
}
