package round_test

import (
	"math/rand"
	"slices"
	"testing"

	"oyez/api"
	"oyez/round"
)

// P3.8 and P0.4

func TestTheBestRoundOrPairsThatExcludeEachOther(t *testing.T) {
	can, cannot := 0, 0
	someBeats(t, 2000, sizes{5, 5, 3, 9}, func(_ *rand.Rand, b round.Beat) {
		best, n, e := round.Best(b)
		pairs, f := round.Excludes(b)
		if (e == api.OK) == (f == api.OK) {
			t.Error(best, e, pairs, f)
		}
		if e != api.OK {
			cannot++
			if is, e := round.Together(b, pairs); is || e != api.OK {
				t.Error(pairs, is, e)
			}
			return
		}
		can++
		if missed, e := round.Missed(b, best); len(missed) > 0 || e != api.OK {
			t.Error(best, missed, e)
		}
		if n > 0 {
			if l, e := round.Before(b, n-1); len(l) == 0 || e != api.OK {
				t.Error(n, l, e)
			}
		}
		if l, e := round.Before(b, n); len(l) != 0 || e != api.ErrNone {
			t.Error(n, l, e)
		}
	})
	if can < 50 || cannot < 50 {
		t.Error("too few beats of a kind:", can, cannot)
	}
}

func TestNoRoundEndsSooner(t *testing.T) {
	someBeats(t, 1000, sizes{5, 5, 3, 9}, func(r *rand.Rand, b round.Beat) {
		_, n, e := round.Best(b)
		for range 50 {
			l, walks := someRound(r, b)
			missed, f := round.Missed(b, l)
			if walks != api.OK || len(missed) > 0 || f != api.OK {
				continue
			}
			ends, _ := round.Ends(b, l)
			if e != api.OK || len(ends) == 0 && n > 0 || len(ends) > 0 && ends[len(ends)-1] < n {
				t.Error(l, ends, n, e)
			}
		}
	})
}

func TestALostPairExcludesItself(t *testing.T) {
	someBeats(t, 2000, sizes{5, 5, 3, 9}, func(_ *rand.Rand, b round.Beat) {
		lost, _ := round.Lost(b)
		for _, p := range allPairs(b) {
			is, e := round.Together(b, []round.Pair{p})
			n, f := round.Soonest(b, p)
			late := f != api.OK || n > b.Notices[p.Notice].Hour
			if is == slices.Contains(lost, p) || is == late || e != api.OK {
				t.Error(p, lost, is, e)
			}
		}
		if l, e := round.Excludes(b); len(lost) > 0 && (!slices.Equal(l, lost[:1]) || e != api.OK) {
			t.Error(lost, l, e)
		}
	})
}

func TestAnHourThatIsPutOff(t *testing.T) {
	someBeats(t, 500, sizes{4, 4, 3, 6}, func(r *rand.Rand, b round.Beat) {
		for i, n := range b.Notices {
			more, e := round.Put(b, i, n.Hour+r.Intn(20))
			if e != api.OK {
				t.Fatal(e)
			}
			_, before, e := round.Best(b)
			if _, after, f := round.Best(more); e == api.OK && (f != api.OK || after > before) {
				t.Error(i, before, e, after, f)
			}
			for _, set := range sets(len(allPairs(b))) {
				was, _ := round.Together(b, pairsOf(b, set))
				if is, e := round.Together(more, pairsOf(b, set)); was && !is || e != api.OK {
					t.Error(i, pairsOf(b, set), was, is, e)
				}
			}
		}
	})
}

func TestTwoCriersAndOne(t *testing.T) {
	someBeats(t, 2000, sizes{5, 5, 3, 9}, func(_ *rand.Rand, b round.Beat) {
		_, one, e := round.Best(b)
		if who, two, f := round.Two(b); e == api.OK && (f != api.OK || two > one || len(who) != len(b.Notices)) {
			t.Error(one, who, two, f)
		}
	})
}

func TestPairsAmongWhichSomeExcludeEachOther(t *testing.T) {
	someBeats(t, 500, sizes{5, 4, 3, 7}, func(_ *rand.Rand, b round.Beat) {
		pairs, e := round.Excludes(b)
		if e != api.OK {
			return
		}
		named := setOf(b, func(p round.Pair) bool { return slices.Contains(pairs, p) })
		for _, set := range sets(len(allPairs(b))) {
			is, e := round.Together(b, pairsOf(b, set))
			if e != api.OK || is && set&named == named || !is && len(elements(set)) < len(pairs) {
				t.Error(pairs, pairsOf(b, set), is, e)
			}
		}
	})
}

func TestHurryIsTheFirstHourThatServes(t *testing.T) {
	someBeats(t, 1000, sizes{5, 5, 3, 9}, func(_ *rand.Rand, b round.Beat) {
		for i := range b.Notices {
			n, e := round.Hurry(b, i)
			last := n
			if e != api.OK {
				last = round.MaxHour + 1
			}
			for hour, want := range map[int]api.Errno{last - 1: api.ErrNone, last: api.OK} {
				if hour < 0 || hour > round.MaxHour {
					continue
				}
				put, _ := round.Put(b, i, hour)
				if _, _, e := round.Best(put); e != want {
					t.Error(i, n, hour, e)
				}
			}
		}
	})
}
