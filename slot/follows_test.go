package slot_test

import (
	"math/rand"
	"slices"
	"testing"

	"oyez/api"
	"oyez/slot"
)

// P9.8 and P0.10

// criers returns the men who cry a notice, slot by slot.
func criers(plan [][]int, n int) []int {
	var men []int
	for _, slots := range plan {
		for man, x := range slots {
			if x == n {
				men = append(men, man)
			}
		}
	}
	return men
}

func TestEachNoticeIsCriedAsOftenAsItMustBeByOtherMen(t *testing.T) {
	someRolls(t, 2000, slot.MaxNotices, func(r *rand.Rand, x slot.Roll) {
		best, e := slot.Best(x)
		plan, f := slot.Plan(x, someShare(r, x))
		if e != api.OK || f != api.OK {
			t.Error(e, f)
		}
		for _, p := range [][][]int{best, plan} {
			for i, n := range x.Notices {
				men := criers(p, i)
				slices.Sort(men)
				if len(men) != n.Times || len(slices.Compact(men)) != n.Times {
					t.Error(p, i, men)
				}
			}
			for _, slots := range p {
				cried := slices.DeleteFunc(slices.Clone(slots), func(n int) bool { return n == slot.None })
				slices.Sort(cried)
				if len(slots) != x.Men || len(slices.Compact(cried)) != x.Men-len(criers([][]int{slots}, slot.None)) {
					t.Error(p, slots)
				}
			}
		}
	})
}

func TestNoPlanHasFewerSlotsThanTheBestOne(t *testing.T) {
	fewer := 0
	someRolls(t, 2000, slot.MaxNotices, func(r *rand.Rand, x slot.Roll) {
		best, _ := slot.Best(x)
		share, load, _ := slot.Least(x)
		if n, e := slot.Slots(x, share); n != len(best) || n != longestOf(x, load) || e != api.OK {
			t.Error(share, load, n, best, e)
		}
		for range 5 {
			share := someShare(r, x)
			loads, _ := slot.Loads(x, share)
			slots, _ := slot.Slots(x, share)
			plan, e := slot.Plan(x, share)
			if slots < len(best) || len(plan) != slots || slots != longestOf(x, slices.Max(loads)) || e != api.OK {
				t.Error(share, loads, slots, plan, e)
			}
			if slots > len(best) {
				fewer++
			}
			if slots == 0 {
				continue
			}
			if plan, e := slot.Keeps(x, share, slots-1, nil); plan != nil || e != api.ErrNone {
				t.Error(share, slots, plan, e)
			}
		}
	})
	if fewer < 500 {
		t.Error("too few shares that need more slots:", fewer)
	}
}

func TestTheLeastLoadIsWhatTheTightSetProves(t *testing.T) {
	for _, notices := range list(slot.MaxNotices, slot.MaxNotices/2) {
		someRolls(t, 2000, notices, func(r *rand.Rand, x slot.Roll) {
			_, load, e := slot.Least(x)
			tight, f := slot.Tight(x)
			if len(x.Notices) == 0 {
				if load != 0 || e != api.OK || f != api.ErrNone {
					t.Error(load, e, tight, f)
				}
				return
			}
			proved := func(set []int) int {
				n, e := slot.Need(x, set)
				if e != api.OK {
					t.Error(set, e)
				}
				return (n + len(set) - 1) / len(set)
			}
			if proved(tight) != load || e != api.OK || f != api.OK {
				t.Error(load, e, tight, f)
			}
			for _, set := range bySize(x.Men)[1:] {
				if n := proved(set); n > load || n == load && len(set) < len(tight) {
					t.Error(load, tight, set, n)
				}
			}
		})
	}
}

func TestBusyMenAndNoticesNeedAllSlots(t *testing.T) {
	someRolls(t, 1000, slot.MaxNotices, func(r *rand.Rand, x slot.Roll) {
		share := someShare(r, x)
		plan, _ := slot.Plan(x, share)
		men, notices, e := slot.Busy(x, share)
		if len(men)+len(notices) == 0 || e != api.OK {
			t.Error(share, men, notices, e)
		}
		for _, slots := range plan {
			for _, man := range men {
				if slots[man] == slot.None {
					t.Error(plan, man)
				}
			}
			for _, n := range notices {
				if !slices.Contains(slots, n) {
					t.Error(plan, n)
				}
			}
		}
	})
}

func TestSlotsCanBeExchanged(t *testing.T) {
	someRolls(t, 1000, slot.MaxNotices, func(r *rand.Rand, x slot.Roll) {
		plan, _ := slot.Best(x)
		share, e := slot.Holds(x, plan)
		mixed := copied(plan)
		r.Shuffle(len(mixed), func(i, j int) { mixed[i], mixed[j] = mixed[j], mixed[i] })
		if held, f := slot.Holds(x, mixed); !isRight(x, share, mixed) || !same(held, share) || e != api.OK || f != api.OK {
			t.Error(plan, mixed, share, held, e, f)
		}
		if kept, e := slot.Keeps(x, share, len(mixed), entriesOf(mixed)); !same(kept, mixed) || e != api.OK {
			t.Error(mixed, kept, e)
		}
	})
}

func TestAManMoreNeverMakesTheLeastLoadGreater(t *testing.T) {
	smaller := 0
	someRolls(t, 2000, slot.MaxNotices, func(_ *rand.Rand, x slot.Roll) {
		_, load, _ := slot.Least(x)
		for i, n := range x.Notices {
			for man := range x.Men {
				if slices.Contains(n.Men, man) {
					continue
				}
				more := clone(x)
				more.Notices[i].Men = append(more.Notices[i].Men, man)
				slices.Sort(more.Notices[i].Men)
				_, other, e := slot.Least(more)
				if other > load || e != api.OK {
					t.Error(i, man, other, load, e)
				}
				if other < load {
					smaller++
				}
			}
		}
	})
	if smaller < 200 {
		t.Error("too few least loads that become smaller:", smaller)
	}
}

func TestANoticeLessNeverMakesAPlanLonger(t *testing.T) {
	shorter := 0
	someRolls(t, 2000, slot.MaxNotices, func(r *rand.Rand, x slot.Roll) {
		share := someShare(r, x)
		slots, _ := slot.Slots(x, share)
		best, _ := slot.Best(x)
		for i := range x.Notices {
			less := clone(x)
			less.Notices = slices.Delete(less.Notices, i, i+1)
			n, e := slot.Slots(less, slices.Delete(copied(share), i, i+1))
			plan, f := slot.Best(less)
			if n > slots || len(plan) > len(best) || e != api.OK || f != api.OK {
				t.Error(i, n, slots, plan, best, e, f)
			}
			if len(plan) < len(best) {
				shorter++
			}
		}
	})
	if shorter < 500 {
		t.Error("too few plans that become shorter:", shorter)
	}
}

func TestWhoCanChange(t *testing.T) {
	someRolls(t, 1000, slot.MaxNotices, func(_ *rand.Rand, x slot.Roll) {
		share, load, _ := slot.Least(x)
		musts, e := slot.Musts(x)
		spare, f := slot.Spare(x)
		if e != api.OK || f != api.OK {
			t.Error(e, f)
		}
		for i, men := range musts {
			for _, man := range men {
				if !slices.Contains(share[i], man) || slices.Contains(spare, man) {
					t.Error(share, i, man, spare)
				}
			}
		}
		for _, man := range spare {
			other := clone(x)
			for i, n := range other.Notices {
				other.Notices[i].Men = without(n.Men, man)
			}
			if _, n, e := slot.Least(other); n != load || e != api.OK {
				t.Error(man, n, load, e)
			}
		}
	})
}
