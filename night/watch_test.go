package night_test

import (
	"math"
	"math/rand"
	"reflect"
	"slices"
	"testing"

	"oyez/api"
	"oyez/night"
)

// P5.1 and P5.2

// listening returns a watch of one hour of which nothing is known.
func listening(listens ...[]int) night.Watch {
	w := nothingKnown(len(listens), 1)
	w.Listens = listens
	return w
}

func TestWatchesThatAreRight(t *testing.T) {
	for i, w := range []night.Watch{
		four(),
		nothingKnown(1, 1),
		nothingKnown(1, 8),
		nothingKnown(6, 1),
		nothingKnown(6, 8),
		listening(nil, list(0), list(1, 0), list(0, 2, 1), list(3), list(4, 0, 3, 1, 2)),
		fourWith(marks(s, h, h, h), marks(h, h, h, h), marks(s, s, s, s)),
	} {
		if e := night.Check(w); e != api.OK {
			t.Error(i, e)
		}
	}
}

func TestWatchesThatAreWrong(t *testing.T) {
	short := nothingKnown(3, 4)
	short.Hours[3] = marks(u, u)
	long := nothingKnown(3, 4)
	long.Hours[2] = marks(u, u, u, u)
	none := nothingKnown(3, 4)
	none.Hours[0] = nil
	for i, x := range []struct {
		w night.Watch
		e api.Errno
	}{
		{night.Watch{}, api.ErrCount},
		{nothingKnown(0, 1), api.ErrCount},
		{nothingKnown(7, 1), api.ErrCount},
		{nothingKnown(1, 0), api.ErrCount},
		{nothingKnown(1, 9), api.ErrCount},
		{short, api.ErrCount},
		{long, api.ErrCount},
		{none, api.ErrCount},
		{listening(list(0)), api.ErrAbsent},
		{listening(list(-1)), api.ErrAbsent},
		{listening(nil, list(1)), api.ErrAbsent},
		{listening(nil, list(0, 2), nil), api.ErrAbsent},
		{listening(nil, list(math.MinInt)), api.ErrAbsent},
		{listening(nil, list(math.MaxInt)), api.ErrAbsent},
		{listening(nil, list(0, 0)), api.ErrTwice},
		{listening(nil, nil, nil, list(2, 0, 1, 2)), api.ErrTwice},
		{listening(nil, list(0, 0, 1)), api.ErrTwice},
		{listening(nil, list(1, 0, 0)), api.ErrAbsent},
		{listening(nil, list(0, 0), list(2)), api.ErrTwice},
		{listening(nil, list(1), list(0, 0)), api.ErrAbsent},
		{listening(nil, list(3, 3)), api.ErrAbsent},
		{fourWith(marks(u, u, u, 3)), api.ErrRange},
		{fourWith(marks(u, u, u, u), marks(-1, u, u, u)), api.ErrRange},
		{fourWith(marks(u, math.MinInt, math.MaxInt, u)), api.ErrRange},
	} {
		if e := night.Check(x.w); e != x.e {
			t.Error(i, e)
		}
	}
}

func TestWith(t *testing.T) {
	someWatches(t, 100, anyMany, func(r *rand.Rand, w night.Watch) {
		for _, p := range allPlaces(w) {
			for _, m := range marks(u, h, s) {
				if got, e := night.With(w, p, m); !reflect.DeepEqual(got, marked(w, m, p)) || e != api.OK {
					t.Error(p, m, got, e)
				}
			}
		}
	})
	for i, x := range []struct {
		p night.Place
		m night.Mark
		e api.Errno
	}{
		{at(-1, 0), u, api.ErrAbsent},
		{at(2, 0), u, api.ErrAbsent},
		{at(0, -1), u, api.ErrAbsent},
		{at(1, 4), u, api.ErrAbsent},
		{at(1, 4), 3, api.ErrAbsent},
		{at(1, 3), 3, api.ErrRange},
		{at(1, 3), -1, api.ErrRange},
	} {
		if got, e := night.With(four(), x.p, x.m); e != x.e || !zero([]any{got}) {
			t.Error(i, got, e)
		}
	}
}

func TestCriesInTheExample(t *testing.T) {
	want := list(15, 0, 9, 0, 11, 0, 9, 0, 7, 0, 1, 0, 3, 0, 1, 0)
	for asleep, set := range want {
		if got, e := night.Cries(four(), asleep); got != set || e != api.OK {
			t.Error(asleep, got, e)
		}
	}
}

// Who listens to several men cries if one of them does, and who listens to nobody cries if he is awake.
func TestOneOfThoseWhoAreListenedToIsEnough(t *testing.T) {
	w := listening(nil, nil, list(1, 0), nil, list(3, 2))
	for asleep, want := range map[int]int{0: 31, 1: 30, 2: 29, 3: 24, 4: 27, 8: 23, 11: 0, 12: 3, 16: 15, 31: 0} {
		if got, e := night.Cries(w, asleep); got != want || e != api.OK {
			t.Error(asleep, got, e)
		}
	}
}

func TestFitsInTheExample(t *testing.T) {
	for asleep := range 16 {
		for hour, want := range []bool{slices.Contains(list(2, 4, 6), asleep), asleep&7 != 0} {
			if is, e := night.Fits(four(), hour, asleep); is != want || e != api.OK {
				t.Error(hour, asleep, is, e)
			}
		}
	}
}

func TestCriesAndFitsByChainsOfMen(t *testing.T) {
	var count [2]int
	someWatches(t, 300, anyMany, func(_ *rand.Rand, w night.Watch) {
		for asleep := range sets(w) {
			if got, e := night.Cries(w, asleep); got != cried(w, asleep) || e != api.OK {
				t.Error(asleep, got, e)
			}
			for hour := range w.Hours {
				is, e := night.Fits(w, hour, asleep)
				if is != fits(w, hour, asleep) || e != api.OK {
					t.Error(hour, asleep, is, e)
				}
				if is {
					count[1]++
				} else {
					count[0]++
				}
			}
		}
	})
	if slices.Min(count[:]) < 1000 {
		t.Error("too few sets that fit, or do not:", count)
	}
}

func TestSetsThatAreNone(t *testing.T) {
	for _, w := range []night.Watch{four(), nothingKnown(1, 1), nothingKnown(6, 8)} {
		for _, asleep := range list(math.MinInt, -1, sets(w), math.MaxInt) {
			set, e := night.Cries(w, asleep)
			is, f := night.Fits(w, 0, asleep)
			if set != 0 || is || e != api.ErrRange || f != api.ErrRange {
				t.Error(asleep, set, is, e, f)
			}
			for _, hour := range list(math.MinInt, -1, len(w.Hours), math.MaxInt) {
				if is, e := night.Fits(w, hour, asleep); is || e != api.ErrAbsent {
					t.Error(hour, asleep, is, e)
				}
			}
		}
	}
}
