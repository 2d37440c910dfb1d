package round_test

import (
	"math/rand"
	"slices"
	"testing"

	"oyez/api"
	"oyez/round"
)

// P3.4 to P3.7

// orNone returns ErrNone if a minute is far.
func orNone(minute int) api.Errno {
	if minute == far {
		return api.ErrNone
	}
	return api.OK
}

// checkBest holds the round that Best tells against the first minute at which a round can end.
func checkBest(t *testing.T, b round.Beat, end int) {
	t.Helper()
	best, n, e := round.Best(b)
	if e != orNone(end) || e != api.OK && (len(best) > 0 || n != 0) {
		t.Error("Best:", best, n, e, end)
	}
	if e != api.OK {
		return
	}
	missed, f := round.Missed(b, best)
	ends, g := round.Ends(b, append([]round.Cry{}, best...))
	if n != end || len(missed) > 0 || f != api.OK || g != api.OK || len(best) > round.MaxCries {
		t.Error("Best:", best, n, missed, end)
	}
	if last := append(list(0), ends...); last[len(last)-1] != n {
		t.Error("Best ends at another minute:", best, n, ends)
	}
}

// checkPairs holds what is told of pairs against what rounds serve.
func checkPairs(t *testing.T, b round.Beat, s served) {
	t.Helper()
	pairs := allPairs(b)
	for _, set := range sets(len(pairs)) {
		some := pairsOf(b, set)
		slices.Reverse(some)
		if is, e := round.Together(b, some); is != (s.end(set) < far) || e != api.OK {
			t.Error("Together:", some, is, e)
		}
	}
	var lost []round.Pair
	for i, p := range pairs {
		if s.end(1<<i) == far {
			lost = append(lost, p)
		}
	}
	if l, e := round.Lost(b); !slices.Equal(l, lost) || e != api.OK {
		t.Error("Lost:", l, lost, e)
	}
	want := excluding(b, s)
	if l, e := round.Excludes(b); !slices.Equal(l, want) || (e == api.OK) != (len(want) > 0) || len(l) == 0 && e != api.ErrNone {
		t.Error("Excludes:", l, want, e)
	}
}

// checkNotices holds what is told of notices against what rounds serve.
func checkNotices(t *testing.T, b round.Beat, s served) {
	t.Helper()
	if l, e := round.Most(b); !slices.Equal(l, most(b, s)) || e != api.OK {
		t.Error("Most:", l, e)
	}
	want, late := twoCriers(b, s)
	if who, n, e := round.Two(b); !slices.Equal(who, want) || e != orNone(late) || e == api.OK && n != late {
		t.Error("Two:", who, n, e, want, late)
	}
}

// checkAll holds all results that rounds decide against what trying all rounds of so many cries finds.
func checkAll(t *testing.T, b round.Beat, cries int, news bool) {
	t.Helper()
	s := serves(b, cries, news)
	checkBest(t, b, s.end(1<<len(allPairs(b))-1))
	checkPairs(t, b, s)
	checkNotices(t, b, s)
}

func TestAgainstAllRounds(t *testing.T) {
	someBeats(t, 3000, sizes{3, 3, 2, 4}, func(_ *rand.Rand, b round.Beat) { checkAll(t, b, 5, false) })
}

func TestAgainstAllRoundsOfCriesThatAreNews(t *testing.T) {
	someBeats(t, 3000, sizes{5, 4, 3, 6}, func(_ *rand.Rand, b round.Beat) { checkAll(t, b, 6, true) })
}

func TestBefore(t *testing.T) {
	named := 0
	someBeats(t, 3000, sizes{4, 4, 2, 5}, func(r *rand.Rand, b round.Beat) {
		minute := r.Intn(25)
		want := excluding(b, serves(within(b, minute), 5, true))
		l, e := round.Before(b, minute)
		if !slices.Equal(l, want) || (e == api.OK) != (len(want) > 0) || len(l) == 0 && e != api.ErrNone {
			t.Error(minute, l, want, e)
		}
		if len(want) > 1 {
			named++
		}
	})
	if named < 20 {
		t.Error("too few lists of more than one pair:", named)
	}
}

func TestHurry(t *testing.T) {
	can := 0
	someBeats(t, 3000, sizes{4, 4, 2, 4}, func(_ *rand.Rand, b round.Beat) {
		for i := range b.Notices {
			want := hurry(b, i, 4, true)
			n, e := round.Hurry(b, i)
			if e != orNone(want) || e == api.OK && n != want || e != api.OK && n != 0 {
				t.Error(i, n, e, want)
			}
			if e == api.OK {
				can++
			}
		}
	})
	if can < 50 {
		t.Error("too few notices that can be asked for:", can)
	}
}

func TestSoonest(t *testing.T) {
	someBeats(t, 500, sizes{5, 5, 3, 9}, func(_ *rand.Rand, b round.Beat) {
		walks := minutes(b)
		for _, p := range allPairs(b) {
			want := far
			for stand, houses := range b.Hears {
				if slices.Contains(houses, p.House) && walks[b.Start][stand] < far {
					want = min(want, walks[b.Start][stand]+b.Notices[p.Notice].Words)
				}
			}
			n, e := round.Soonest(b, p)
			if e != orNone(want) || e == api.OK && n != want || e != api.OK && n != 0 {
				t.Error(p, n, e, want)
			}
		}
	})
}

func TestSoonestAsksForNoHour(t *testing.T) {
	if n, e := round.Soonest(rowBy(0, 0), pair(0, 2)); n != 7 || e != api.OK {
		t.Error(n, e)
	}
	cut := row()
	cut.Walks[1][2] = round.None
	if n, e := round.Soonest(cut, pair(0, 2)); n != 0 || e != api.ErrNone {
		t.Error(n, e)
	}
	if l, e := round.Lost(cut); !slices.Equal(l, []round.Pair{pair(0, 2)}) || e != api.OK {
		t.Error(l, e)
	}
}

func TestExamples(t *testing.T) {
	all := []round.Pair{pair(0, 0), pair(0, 2), pair(1, 1)}
	checkBest(t, row(), 11)
	checkBest(t, rowBy(10), 11)
	checkBest(t, rowBy(9), far)
	if l, e := round.Excludes(rowBy(9)); !slices.Equal(l, all[:2]) || e != api.OK {
		t.Error(l, e)
	}
	if l, e := round.Before(row(), 10); !slices.Equal(l, all) || e != api.OK {
		t.Error(l, e)
	}
	for i := range all {
		two := slices.Delete(slices.Clone(all), i, i+1)
		if is, e := round.Together(within(row(), 10), two); !is || e != api.OK {
			t.Error(two, is, e)
		}
	}
	for notice, want := range list(10, 6) {
		if n, e := round.Hurry(row(), notice); n != want || e != api.OK {
			t.Error(notice, n, e)
		}
	}
	if who, n, e := round.Two(row()); !slices.Equal(who, list(0, 1)) || n != 10 || e != api.OK {
		t.Error(who, n, e)
	}
}

func TestABeatWithoutNotices(t *testing.T) {
	b := row()
	b.Notices = nil
	checkBest(t, b, 0)
	if l, e := round.Excludes(b); len(l) != 0 || e != api.ErrNone {
		t.Error(l, e)
	}
	if l, e := round.Before(b, 0); len(l) != 0 || e != api.ErrNone {
		t.Error(l, e)
	}
	if l, e := round.Most(b); len(l) != 0 || e != api.OK {
		t.Error(l, e)
	}
	if who, n, e := round.Two(b); len(who) != 0 || n != 0 || e != api.OK {
		t.Error(who, n, e)
	}
	if is, e := round.Together(b, nil); !is || e != api.OK {
		t.Error(is, e)
	}
}

func TestTogetherOfNoPairs(t *testing.T) {
	for _, b := range []round.Beat{row(), rowBy(0, 0)} {
		if is, e := round.Together(b, nil); !is || e != api.OK {
			t.Error(is, e)
		}
	}
}

// farApart has 5 stands, each 20 minutes from each other one, and heard by one house alone.
func farApart() round.Beat {
	b := widest()
	for stand := range 5 {
		b.Hears[stand] = list(stand)
	}
	return b
}

// chain has those stands in a row, with ways between neighbours alone. The crier begins at one end.
func chain() round.Beat {
	b := farApart()
	for from := range 5 {
		for to := range 5 {
			if to-from > 1 || from-to > 1 {
				b.Walks[from][to] = round.None
			}
		}
	}
	b.Start = 0
	return b
}

func TestTheGreatestBeats(t *testing.T) {
	b := farApart()
	// Four walks, and nine cries of 5 minutes.
	checkBest(t, b, 4*20+9*5)
	if n, e := round.Hurry(b, 0); n != 4*20+5*5 || e != api.OK {
		t.Error(n, e)
	}
	// Who cries notice 0 goes to all houses; the other one cries notices 1 and 2, at four of them, and begins at one of these.
	if who, n, e := round.Two(b); !slices.Equal(who, list(0, 1, 1)) || n != 4*20+5*5 || e != api.OK {
		t.Error(who, n, e)
	}
	if l, e := round.Most(b); !slices.Equal(l, list(0, 1, 2)) || e != api.OK {
		t.Error(l, e)
	}
	late := 4*20 + 9*5 - 1
	if l, e := round.Before(b, late); len(l) != 9 || e != api.OK {
		t.Error(l, e)
	}
	if l, e := round.Before(b, late+1); len(l) != 0 || e != api.ErrNone {
		t.Error(l, e)
	}
	// From the middle of a chain to one end of it, and then to the other one.
	b = chain()
	b.Start = 2
	checkBest(t, b, (2+4)*20+9*5)
}

func TestHurryUpToTheLastHour(t *testing.T) {
	// There is no minute to spare: notice 0 is heard at stand 3 at 65, and at stand 4 at 90, notice 1 back at stand 0 at 175.
	b := chain()
	b.Notices = []round.Notice{notice(5, 90, 3, 4), notice(5, 175, 0), notice(5, 0, 1)}
	if n, e := round.Hurry(b, 2); n != 200 || e != api.OK {
		t.Error(n, e)
	}
	if n, e := round.Hurry(b, 1); n != 0 || e != api.ErrNone {
		t.Error(n, e)
	}
	b.Notices[2].Quarter = list(2)
	if n, e := round.Hurry(b, 2); n != 0 || e != api.ErrNone {
		t.Error(n, e)
	}
	b.Notices = b.Notices[:2]
	for notice, want := range list(90, 175) {
		if n, e := round.Hurry(b, notice); n != want || e != api.OK {
			t.Error(notice, n, e)
		}
	}
}

func TestTheFirstOfSeveralLists(t *testing.T) {
	// Each of three notices takes 5 minutes at the same stand: by 10, two of them are served, whichever they are.
	b := round.Beat{Walks: [][]int{{0}}, Hears: [][]int{{0, 1, 2}}, Houses: 3, Notices: []round.Notice{notice(5, 10, 2), notice(5, 10, 1), notice(5, 10, 0)}}
	if l, e := round.Most(b); !slices.Equal(l, list(0, 1)) || e != api.OK {
		t.Error(l, e)
	}
	if l, e := round.Before(b, 9); !slices.Equal(l, []round.Pair{pair(0, 2), pair(1, 1)}) || e != api.OK {
		t.Error(l, e)
	}
	if l, e := round.Excludes(b); !slices.Equal(l, []round.Pair{pair(0, 2), pair(1, 1), pair(2, 0)}) || e != api.OK {
		t.Error(l, e)
	}
	if who, n, e := round.Two(b); !slices.Equal(who, list(0, 0, 1)) || n != 10 || e != api.OK {
		t.Error(who, n, e)
	}
	if l, e := round.Before(b, 4); !slices.Equal(l, []round.Pair{pair(0, 2)}) || e != api.OK {
		t.Error(l, e)
	}
	if who, n, e := round.Two(rowBy(0)); len(who) != 0 || n != 0 || e != api.ErrNone {
		t.Error(who, n, e)
	}
}
