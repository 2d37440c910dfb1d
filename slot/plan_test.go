package slot_test

import (
	"math"
	"math/rand"
	"slices"
	"testing"

	"oyez/api"
	"oyez/slot"
)

// P9.4 and P9.5

func TestSlotsBusyAndPlan(t *testing.T) {
	six := roll(1, slices.Repeat([]slot.Notice{notice(1, 0)}, 6)...)
	thrice := lists(list(0, 1, 2), list(0, 1, 2), list(0, 1, 2))
	for i, x := range []struct {
		r            slot.Roll
		share        [][]int
		slots        int
		men, notices []int
	}{
		{court(), courtShare(), 3, list(1), list(0)},
		{court(), lists(list(0, 1, 2), list(0), list(0), list(0, 1)), 4, list(0), nil},
		{roll(2), nil, 0, list(0, 1), nil},
		{roll(1), nil, 0, list(0), nil},
		{open(3, 1, 1), lists(list(0), list(2)), 1, list(0, 2), list(0, 1)},
		{open(3, 2, 1), lists(list(0, 2), list(1)), 2, nil, list(0)},
		{open(3, 2, 1), lists(list(0, 2), list(0)), 2, list(0), list(0)},
		{open(3, 1, 1), lists(list(1), list(1)), 2, list(1), nil},
		{open(2, 2, 2), lists(list(0, 1), list(0, 1)), 2, list(0, 1), list(0, 1)},
		{open(3, 3, 3, 3), thrice, 3, list(0, 1, 2), list(0, 1, 2)},
		{open(3, 3, 3, 3, 3, 3, 3), append(thrice, thrice...), 6, list(0, 1, 2), nil},
		{six, lists(list(0), list(0), list(0), list(0), list(0), list(0)), 6, list(0), nil},
		{largest(), lists(list(0, 1, 2), list(2, 3, 4), list(0, 1, 4), list(1, 2, 3), list(0, 3, 4), list(0, 1, 2)), 4, list(0, 1, 2), nil},
	} {
		slots, e := slot.Slots(x.r, x.share)
		men, notices, f := slot.Busy(x.r, x.share)
		plan, g := slot.Plan(x.r, x.share)
		if slots != x.slots || e != api.OK {
			t.Error(i, slots, e)
		}
		if !slices.Equal(men, x.men) || !slices.Equal(notices, x.notices) || f != api.OK {
			t.Error(i, men, notices, f)
		}
		if len(plan) != x.slots || !isRight(x.r, x.share, plan) || g != api.OK {
			t.Error(i, plan, g)
		}
	}
}

// busyOf returns the men and the notices that need so many slots.
func busyOf(x slot.Roll, share [][]int, slots int) (men, notices []int) {
	for man, load := range loadsOf(x, share) {
		if load == slots {
			men = append(men, man)
		}
	}
	for i, n := range x.Notices {
		if n.Times == slots {
			notices = append(notices, i)
		}
	}
	return men, notices
}

func TestPlansOfAnyShare(t *testing.T) {
	tried := 0
	someRolls(t, 2000, slot.MaxNotices, func(r *rand.Rand, x slot.Roll) {
		share := someShare(r, x)
		slots, e := slot.Slots(x, share)
		plan, f := slot.Plan(x, share)
		if len(plan) != slots || !isRight(x, share, plan) || e != api.OK || f != api.OK {
			t.Error(share, slots, plan, e, f)
		}
		if len(criesOf(share)) <= 8 {
			tried++
			if n := slotsOf(share); n != slots {
				t.Error(share, slots, n)
			}
		}
		men, notices, e := slot.Busy(x, share)
		if a, b := busyOf(x, share, slots); !slices.Equal(men, a) || !slices.Equal(notices, b) || e != api.OK {
			t.Error(share, men, notices, e)
		}
	})
	if tried < 1000 {
		t.Error("too few shares of which all plans are tried:", tried)
	}
}

func TestHolds(t *testing.T) {
	blank := list(-1, -1, -1)
	five := slices.Repeat(lists(blank), 5)
	for i, x := range []struct {
		r     slot.Roll
		plan  [][]int
		share [][]int
		e     api.Errno
	}{
		{court(), courtPlan(), courtShare(), api.OK},
		{court(), append(courtPlan(), blank), courtShare(), api.OK},
		{court(), append(five, courtPlan()...), courtShare(), api.OK},
		{court(), lists(list(0, 1, 3), blank, list(2, 3, 0), list(-1, 0, -1)), courtShare(), api.OK},
		{court(), lists(list(0, 3, -1), list(1, 0, -1), list(2, -1, 0), list(3, -1, -1)), lists(list(0, 1, 2), list(0), list(0), list(0, 1)), api.OK},
		{roll(3), nil, nil, api.OK},
		{roll(3), lists(blank, blank), nil, api.OK},
		{court(), append(append(five, blank), courtPlan()...), nil, api.ErrCount},
		{roll(3), slices.Repeat(lists(blank), 9), nil, api.ErrCount},
		{roll(3), lists(list(-1, -1)), nil, api.ErrCount},
		{roll(3), lists(blank, nil), nil, api.ErrCount},
		{court(), lists(list(9, 9, 9), list(2, 3, 0, -1), list(-1, 0, -1)), nil, api.ErrCount},
		{court(), lists(list(0, 0, 3), list(2, 3, 0), list(-1, 4, -1)), nil, api.ErrAbsent},
		{court(), lists(list(0, 1, 3), list(2, 3, 0), list(-1, 0, -2)), nil, api.ErrAbsent},
		{court(), lists(list(0, 1, 3), list(2, 3, math.MaxInt), list(-1, 0, -1)), nil, api.ErrAbsent},
		{court(), lists(list(math.MinInt, 1, 3)), nil, api.ErrAbsent},
		{roll(3), lists(list(-1, 0, -1)), nil, api.ErrAbsent},
		{court(), lists(list(4, 4, 4)), nil, api.ErrAbsent},
		{court(), lists(list(0, 0, 3), list(2, 3, 0), list(-1, 1, -1)), nil, api.ErrTwice},
		{court(), lists(list(0, 1, 3), list(2, 3, 0), list(0, -1, 0)), nil, api.ErrTwice},
		{court(), lists(list(1, 1, 1)), nil, api.ErrTwice},
		{court(), nil, nil, api.ErrFalse},
		// a cry is missing, or is one too many, or is another man's
		{court(), lists(list(0, 1, 3), list(2, 3, 0)), nil, api.ErrFalse},
		{court(), append(courtPlan(), list(1, -1, -1)), nil, api.ErrFalse},
		{court(), append(courtPlan(), list(3, -1, -1)), nil, api.ErrFalse},
		{court(), lists(list(0, 1, 3), list(-1, 3, 0), list(-1, 0, 2)), nil, api.ErrFalse},
		{court(), lists(list(0, -1, 3), list(2, 3, 0), list(-1, 0, 1)), nil, api.ErrFalse},
		// a man cries a notice in two slots
		{court(), append(courtPlan(), list(-1, 0, -1)), nil, api.ErrFalse},
		{court(), lists(list(0, 1, 3), list(2, 3, -1), list(-1, 0, -1), list(-1, 0, -1)), nil, api.ErrFalse},
		{court(), lists(list(0, 1, 3), list(2, -1, 0), list(-1, 0, 3)), nil, api.ErrFalse},
	} {
		if share, e := slot.Holds(x.r, x.plan); !same(share, x.share) || e != x.e {
			t.Error(i, share, e)
		}
	}
}

// damaged returns a plan with some other numbers at some places.
func damaged(r *rand.Rand, x slot.Roll, plan [][]int) [][]int {
	plan = copied(plan)
	for range r.Intn(4) {
		if len(plan) == 0 {
			return plan
		}
		i, man := r.Intn(len(plan)), r.Intn(x.Men)
		j, other := r.Intn(len(plan)), r.Intn(x.Men)
		switch r.Intn(4) {
		case 0:
			plan[i][man] = r.Intn(len(x.Notices)+3) - 2
		case 1:
			plan[i][man] = slot.None
		default:
			plan[i][man], plan[j][other] = plan[j][other], plan[i][man]
		}
	}
	return plan
}

func TestHoldsOfAnyPlan(t *testing.T) {
	count := map[api.Errno]int{}
	someRolls(t, 4000, 4, func(r *rand.Rand, x slot.Roll) {
		plan := damaged(r, x, somePlan(r, x, someShare(r, x)))
		share, e := slot.Holds(x, plan)
		if want, f := holdsOf(x, plan); !same(share, want) || e != f {
			t.Error(plan, share, e, want, f)
		}
		count[e]++
	})
	for _, e := range []api.Errno{api.OK, api.ErrAbsent, api.ErrTwice, api.ErrFalse} {
		if count[e] < 100 {
			t.Error("too few plans of a kind:", count)
		}
	}
}

func TestBest(t *testing.T) {
	for i, x := range []struct {
		r     slot.Roll
		slots int
	}{
		{court(), 3},
		{largest(), 4},
		{roll(3), 0},
		{open(3, 3), 3},
		{open(5, 2), 2},
		{open(5, 3, 2), 3},
		{roll(3, notice(1, 0), notice(1, 0), notice(1, 1, 2)), 2},
		{roll(2, notice(1, 0, 1), notice(1, 0, 1), notice(1, 0, 1)), 2},
		{roll(1, slices.Repeat([]slot.Notice{notice(1, 0)}, 6)...), 6},
		{open(3, 3, 3, 3, 3, 3, 3), 6},
		{roll(5, notice(1, 0, 1), notice(1, 1, 2), notice(1, 2, 3), notice(1, 3, 4), notice(1, 0)), 1},
	} {
		plan, e := slot.Best(x.r)
		share, f := slot.Holds(x.r, plan)
		if len(plan) != x.slots || !isShare(x.r, share) || !isRight(x.r, share, plan) || e != api.OK || f != api.OK {
			t.Error(i, plan, e, f)
		}
	}
}

func TestBestOfAnyRoll(t *testing.T) {
	tried := 0
	someRolls(t, 1500, slot.MaxNotices, func(_ *rand.Rand, x slot.Roll) {
		plan, e := slot.Best(x)
		share, f := slot.Holds(x, plan)
		if len(plan) != longestOf(x, leastOf(x)) || !isShare(x, share) || !isRight(x, share, plan) || e != api.OK || f != api.OK {
			t.Error(plan, e, f)
		}
		if manyShares(x) > 200 || len(criesOf(share)) > 7 {
			return
		}
		tried++
		for _, other := range allShares(x) {
			if n := slotsOf(other); n < len(plan) {
				t.Error(plan, other, n)
			}
		}
	})
	if tried < 500 {
		t.Error("too few rolls of which all plans are tried:", tried)
	}
}
