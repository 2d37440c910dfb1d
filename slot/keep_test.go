package slot_test

import (
	"math"
	"math/rand"
	"slices"
	"testing"

	"oyez/api"
	"oyez/slot"
)

// P9.6

func TestFirst(t *testing.T) {
	late := append(lists(list(-1, -1, -1)), courtPlan()...)
	for i, x := range []struct {
		r      slot.Roll
		plan   [][]int
		notice int
		want   [][]int
		e      api.Errno
	}{
		{court(), courtPlan(), 0, courtPlan(), api.OK},
		{court(), courtPlan(), 1, courtPlan(), api.OK},
		{court(), courtPlan(), 2, lists(list(2, 3, 0), list(0, 1, 3), list(-1, 0, -1)), api.OK},
		{court(), courtPlan(), 3, courtPlan(), api.OK},
		{court(), late, 0, lists(list(0, 1, 3), list(-1, -1, -1), list(2, 3, 0), list(-1, 0, -1)), api.OK},
		{court(), late, 2, lists(list(2, 3, 0), list(0, 1, 3), list(-1, -1, -1), list(-1, 0, -1)), api.OK},
		{roll(1, notice(1, 0), notice(1, 0)), lists(list(0), list(1)), 1, lists(list(1), list(0)), api.OK},
		{court(), courtPlan(), 4, nil, api.ErrAbsent},
		{court(), courtPlan(), -1, nil, api.ErrAbsent},
		{court(), courtPlan(), math.MinInt, nil, api.ErrAbsent},
		{court(), courtPlan(), math.MaxInt, nil, api.ErrAbsent},
		{roll(3), nil, 0, nil, api.ErrAbsent},
		{roll(3), lists(list(-1, -1, -1)), -1, nil, api.ErrAbsent},
		{court(), nil, 4, nil, api.ErrFalse},
		{court(), courtPlan()[:2], 0, nil, api.ErrFalse},
		{court(), lists(list(0, 0, 3)), 4, nil, api.ErrTwice},
		{court(), lists(list(0, 1)), -1, nil, api.ErrCount},
	} {
		if plan, e := slot.First(x.r, x.plan, x.notice); !same(plan, x.want) || e != x.e {
			t.Error(i, plan, e)
		}
	}
}

func TestFirstOfAnyPlan(t *testing.T) {
	moved := 0
	someRolls(t, 1000, slot.MaxNotices, func(r *rand.Rand, x slot.Roll) {
		share := someShare(r, x)
		plan := somePlan(r, x, share)
		for n := range x.Notices {
			first, e := slot.First(x, plan, n)
			if !same(first, exchanged(plan, n)) || !isRight(x, share, first) || !slices.Contains(first[0], n) || e != api.OK {
				t.Error(plan, n, first, e)
			}
			if !same(first, plan) {
				moved++
			}
		}
	})
	if moved < 1000 {
		t.Error("too few slots that are exchanged:", moved)
	}
}

func TestKeeps(t *testing.T) {
	r, share := court(), courtShare()
	twice := open(2, 2, 2)
	both := lists(list(0, 1), list(0, 1))
	for i, x := range []struct {
		r     slot.Roll
		share [][]int
		slots int
		kept  []slot.Entry
		e     api.Errno
	}{
		{r, share, 3, nil, api.OK},
		{r, share, 4, nil, api.OK},
		{r, share, 8, nil, api.OK},
		{r, share, 3, entries(0, 2, 0, 1, 1, 3), api.OK},
		{r, share, 8, entries(7, 2, 0), api.OK},
		{r, share, 3, entriesOf(courtPlan()), api.OK},
		{r, share, 5, entriesOf(courtPlan()), api.OK},
		{r, share, 3, entries(2, 0, 2, 0, 1, 1), api.OK},
		{roll(2), nil, 0, nil, api.OK},
		{roll(2), nil, 8, nil, api.OK},
		{twice, both, 2, entries(0, 0, 0, 0, 1, 1), api.OK},
		{twice, both, 3, entries(0, 0, 0, 1, 1, 1), api.OK},
		// there are not enough slots, or a notice, or a man, has no slot left
		{r, share, 2, nil, api.ErrNone},
		{r, share, 0, nil, api.ErrNone},
		{twice, both, 1, nil, api.ErrNone},
		{twice, both, 2, entries(0, 0, 0, 1, 1, 1), api.ErrNone},
		{r, share, 3, entries(0, 0, 2, 0, 1, 1, 0, 2, 3), api.ErrNone},
		{r, share, 3, entries(0, 0, 0, 1, 2, 0, 2, 1, 3), api.ErrNone},
		{r, share, 4, entries(0, 0, 2, 0, 1, 1, 0, 2, 3), api.OK},
		// what is wrong
		{r, nil, 9, nil, api.ErrCount},
		{r, lists(list(0, 1, 2), list(2), list(0), list(1, 2)), 9, nil, api.ErrAbsent},
		{r, share, 9, entries(9, 9, 9), api.ErrRange},
		{r, share, -1, nil, api.ErrRange},
		{r, share, math.MinInt, nil, api.ErrRange},
		{r, share, math.MaxInt, nil, api.ErrRange},
		{r, share, 3, entries(3, 2, 0), api.ErrAbsent},
		{r, share, 3, entries(-1, 2, 0), api.ErrAbsent},
		{r, share, 0, entries(0, 2, 0), api.ErrAbsent},
		{r, share, 3, entries(0, 3, 0), api.ErrAbsent},
		{r, share, 3, entries(0, -1, 0), api.ErrAbsent},
		{r, share, 3, entries(0, 0, 4), api.ErrAbsent},
		{r, share, 3, entries(0, 0, -1), api.ErrAbsent},
		{r, share, 3, entries(math.MaxInt, 0, 0), api.ErrAbsent},
		{r, share, 3, entries(0, math.MinInt, 0), api.ErrAbsent},
		{r, share, 3, entries(0, 0, math.MaxInt), api.ErrAbsent},
		{r, share, 3, entries(0, 0, 1), api.ErrFalse},
		{r, share, 3, entries(0, 2, 2), api.ErrFalse},
		{r, share, 3, entries(0, 0, 0, 1, 0, 0), api.ErrTwice},
		{r, share, 3, entries(0, 0, 0, 0, 0, 2), api.ErrTwice},
		{r, share, 3, entries(0, 0, 0, 0, 1, 0), api.ErrTwice},
		{r, share, 3, entries(0, 0, 0, 0, 0, 0), api.ErrTwice},
		{r, share, 3, entries(0, 0, 0, 1, 1, 0, 2, 1, 3, 1, 2, 0), api.ErrTwice},
		// the first entry with an error decides, and slots that are too few come last
		{r, share, 3, entries(0, 0, 1, 9, 0, 0), api.ErrFalse},
		{r, share, 3, entries(0, 0, 0, 1, 0, 0, 0, 0, 1), api.ErrTwice},
		{r, share, 3, entries(0, 0, 0, 0, 0, 1), api.ErrFalse},
		{r, share, 3, entries(0, 0, 0, 0, 0, 4), api.ErrAbsent},
		{r, share, 2, entries(0, 0, 0, 1, 0, 0), api.ErrTwice},
		{r, share, 2, entries(2, 0, 0), api.ErrAbsent},
	} {
		plan, e := slot.Keeps(x.r, x.share, x.slots, x.kept)
		if e != x.e || e != api.OK && plan != nil {
			t.Error(i, plan, e)
		}
		if x.e == api.OK && (len(plan) != x.slots || !isRight(x.r, x.share, plan) || !hasEntries(plan, x.kept)) {
			t.Error(i, plan)
		}
	}
}

// someKept returns entries of a share, of which no two have two things in common.
func someKept(r *rand.Rand, x slot.Roll, share [][]int, slots int) []slot.Entry {
	var kept []slot.Entry
	often := 1 + r.Intn(4)
	plan := copied(slices.Repeat(lists(slices.Repeat(list(slot.None), x.Men)), slots))
	for _, c := range criesOf(share) {
		i := r.Intn(slots)
		if r.Intn(5) < often && plan[i][c.man] == slot.None && !slices.Contains(plan[i], c.notice) {
			plan[i][c.man] = c.notice
			kept = append(kept, slot.Entry{Slot: i, Man: c.man, Notice: c.notice})
		}
	}
	r.Shuffle(len(kept), func(i, j int) { kept[i], kept[j] = kept[j], kept[i] })
	return kept
}

func TestKeepsOfAnyShare(t *testing.T) {
	var count [2]int
	someRolls(t, 10000, slot.MaxNotices, func(r *rand.Rand, x slot.Roll) {
		share := someShare(r, x)
		if many := len(criesOf(share)); many < 4 || many > 10 {
			return
		}
		slots := min(slot.MaxSlots, slotsOf(share)+r.Intn(2))
		kept := someKept(r, x, share, slots)
		plan, e := slot.Keeps(x, share, slots, kept)
		if canKeep(share, slots, kept) {
			if len(plan) != slots || !isRight(x, share, plan) || !hasEntries(plan, kept) || e != api.OK {
				t.Error(share, slots, kept, plan, e)
			}
			count[0]++
			return
		}
		if plan != nil || e != api.ErrNone {
			t.Error(share, slots, kept, plan, e)
		}
		count[1]++
	})
	if slices.Min(count[:]) < 200 {
		t.Error("too few shares of a kind:", count)
	}
}

func TestKeepsSomeOfAnyPlan(t *testing.T) {
	many := 0
	someRolls(t, 2000, slot.MaxNotices, func(r *rand.Rand, x slot.Roll) {
		share := someShare(r, x)
		all := somePlan(r, x, share)
		kept := entriesOf(all)
		r.Shuffle(len(kept), func(i, j int) { kept[i], kept[j] = kept[j], kept[i] })
		kept = kept[:r.Intn(len(kept)+1)]
		plan, e := slot.Keeps(x, share, len(all), kept)
		if len(plan) != len(all) || !isRight(x, share, plan) || !hasEntries(plan, kept) || e != api.OK {
			t.Error(share, kept, plan, e)
		}
		if len(criesOf(share)) > 9 {
			many++
		}
	})
	if many < 300 {
		t.Error("too few shares with many cries:", many)
	}
}

// Rolls in which all slots of some men are full are those in which a plan is hardest to find.
func TestKeepsWhereSlotsAreFull(t *testing.T) {
	x := open(3, 3, 3, 3, 3, 3, 3)
	share := slices.Repeat(lists(list(0, 1, 2)), 6)
	for i, k := range []struct {
		slots int
		kept  []slot.Entry
		e     api.Errno
	}{
		{5, nil, api.ErrNone},
		{5, entries(4, 0, 5, 3, 1, 4, 0, 2, 5), api.ErrNone},
		{6, nil, api.OK},
		{6, entries(0, 0, 0, 1, 1, 0, 2, 2, 0, 1, 0, 1, 2, 1, 1, 3, 2, 1), api.OK},
		// man 0 has the notices 0 to 4 in five slots, and man 1 has notice 5 in the last one
		{6, entries(0, 0, 0, 1, 0, 1, 2, 0, 2, 3, 0, 3, 4, 0, 4, 5, 1, 5), api.ErrNone},
		{7, entries(0, 0, 0, 1, 0, 1, 2, 0, 2, 3, 0, 3, 4, 0, 4, 5, 1, 5), api.OK},
		// in slot 0 each man could cry notice 5 alone, as all others are in his other slots or in this one
		{6, entries(1, 0, 0, 2, 0, 1, 3, 0, 2, 0, 1, 3, 0, 2, 4), api.OK},
		{6, entries(1, 0, 0, 2, 0, 1, 3, 0, 2, 0, 1, 5, 0, 2, 4), api.OK},
		{6, entries(1, 0, 0, 2, 0, 1, 3, 0, 2, 4, 0, 3, 0, 1, 5, 0, 2, 4), api.ErrNone},
		{8, entries(1, 0, 0, 2, 0, 1, 3, 0, 2, 4, 0, 3, 0, 1, 5, 0, 2, 4), api.OK},
	} {
		plan, e := slot.Keeps(x, share, k.slots, k.kept)
		if e != k.e || e == api.OK && (len(plan) != k.slots || !isRight(x, share, plan) || !hasEntries(plan, k.kept)) {
			t.Error(i, plan, e)
		}
	}
}
