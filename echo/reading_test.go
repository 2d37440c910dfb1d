package echo_test

import (
	"math"
	"math/rand"
	"slices"
	"testing"

	"oyez/api"
	"oyez/echo"
)

// P10.1, P10.2 and P10.3

func TestCheck(t *testing.T) {
	long := list(0, 1, 2, 3, 4, 9)
	ten := list(9, 8, 7, 6, 5, 4, 3, 2, 1, 0)
	for i, x := range []struct {
		e    echo.Echo
		want api.Errno
	}{
		{crossed(5, 0), api.OK},
		{crossed(0, 8), api.OK},
		{largest(), api.OK},
		{texts(0, list(0)), api.OK},
		{texts(8, list(9)), api.OK},
		{texts(0, long, long, long, long, long), api.OK},
		{echo.Echo{Texts: lists(list(3)), Heard: ten}, api.OK},
		{echo.Echo{}, api.ErrCount},
		{texts(0), api.ErrCount},
		{texts(0, long, long, long, long, long, long), api.ErrCount},
		{texts(0, nil), api.ErrCount},
		{texts(0, long, nil), api.ErrCount},
		{texts(0, append(long, 1)), api.ErrCount},
		{texts(0, list(1), append(long, 1)), api.ErrCount},
		{echo.Echo{Texts: lists(list(3)), Heard: append(ten, 1)}, api.ErrCount},
		{echo.Echo{Heard: ten, Faults: -1}, api.ErrCount},
		{texts(9, list(10), nil), api.ErrCount},
		{texts(0, list(-1), list(1), append(long, 1)), api.ErrCount},
		{echo.Echo{Texts: lists(list(10)), Heard: append(ten, 1)}, api.ErrCount},
		{texts(0, list(10)), api.ErrRange},
		{texts(0, list(-1)), api.ErrRange},
		{texts(0, list(1, 2, 10)), api.ErrRange},
		{texts(0, list(1), list(0, -1, 0)), api.ErrRange},
		{texts(0, list(math.MinInt)), api.ErrRange},
		{texts(0, list(1), list(math.MaxInt)), api.ErrRange},
		{echo.Echo{Texts: lists(list(3)), Heard: list(10)}, api.ErrRange},
		{echo.Echo{Texts: lists(list(3)), Heard: list(3, -1)}, api.ErrRange},
		{echo.Echo{Texts: lists(list(3)), Heard: list(math.MaxInt, 1)}, api.ErrRange},
		{echo.Echo{Texts: lists(list(3)), Heard: list(math.MinInt)}, api.ErrRange},
		{crossed(5, -1), api.ErrRange},
		{crossed(5, 9), api.ErrRange},
		{crossed(5, math.MinInt), api.ErrRange},
		{crossed(5, math.MaxInt), api.ErrRange},
	} {
		if e := echo.Check(x.e); e != x.want {
			t.Error(i, e)
		}
	}
}

func TestBestReadings(t *testing.T) {
	for i, x := range []struct {
		e     echo.Echo
		p     echo.Pair
		least int
		count int
		sure  []echo.Side
	}{
		{crossed(5, 0), pair(0, 1), 0, 2, sides(echo.OfA, echo.OfB, echo.Open, echo.Open, echo.OfA)},
		{crossed(5, 0), pair(1, 0), 0, 2, sides(echo.OfB, echo.OfA, echo.Open, echo.Open, echo.OfB)},
		{crossed(5, 0), pair(0, 0), 3, 8, sides(echo.Open, echo.Noise, echo.Open, echo.Open, echo.Open)},
		{crossed(5, 0), pair(1, 1), 3, 4, sides(echo.Noise, echo.Open, echo.Open, echo.Open, echo.Noise)},
		{crossed(3, 8), pair(0, 1), 2, 2, sides(echo.OfA, echo.OfB, echo.Open)},
		{crossed(0, 0), pair(0, 1), 5, 1, nil},
		{texts(0, list(5)), pair(0, 0), 2, 1, nil},
		{echo.Echo{Texts: lists(list(5)), Heard: list(5)}, pair(0, 0), 1, 2, sides(echo.Open)},
		{echo.Echo{Texts: lists(list(5)), Heard: list(6)}, pair(0, 0), 3, 1, sides(echo.Noise)},
		{echo.Echo{Texts: lists(list(5)), Heard: list(5, 5)}, pair(0, 0), 0, 2, sides(echo.Open, echo.Open)},
		{echo.Echo{Texts: lists(list(5)), Heard: list(5, 5, 5)}, pair(0, 0), 1, 6, sides(echo.Open, echo.Open, echo.Open)},
		// it is of the text A in all readings, but not at the same place
		{echo.Echo{Texts: lists(list(5, 5), list(6)), Heard: list(5, 6)}, pair(0, 1), 1, 2, sides(echo.OfA, echo.OfB)},
		// one of the words 1 and 2 is noise, as they are heard in another order
		{echo.Echo{Texts: lists(list(1, 2), list(3)), Heard: list(2, 1, 3)}, pair(0, 1), 2, 2, sides(echo.Open, echo.Open, echo.OfB)},
		{echo.Echo{Texts: lists(list(1, 2, 3), list(3)), Heard: list(2, 1, 3, 3)}, pair(0, 1), 2, 4, sides(echo.Open, echo.Open, echo.Open, echo.Open)},
		{largest(), pair(0, 1), 2, 15372, make([]echo.Side, 10)},
		{largest(), pair(3, 3), 2, 15372, make([]echo.Side, 10)},
	} {
		least, e := echo.Least(x.e, x.p)
		count, f := echo.Count(x.e, x.p)
		sure, g := echo.Sure(x.e, x.p)
		reading, h := echo.Reading(x.e, x.p)
		if least != x.least || count != x.count || !slices.Equal(sure, x.sure) || e != api.OK || f != api.OK || g != api.OK {
			t.Error(i, least, count, sure, e, f, g)
		}
		if !isReading(x.e, x.p, reading) || faultsOf(x.e, x.p, reading) != x.least || h != api.OK {
			t.Error(i, reading, h)
		}
	}
}

func TestBestReadingsOfAnyEcho(t *testing.T) {
	var least, open [echo.MaxHeard + 1]int
	check := func(r *rand.Rand, e echo.Echo) {
		p := somePair(r, e)
		want := bestOf(e, p)
		n, e1 := echo.Least(e, p)
		count, e2 := echo.Count(e, p)
		sure, e3 := echo.Sure(e, p)
		reading, e4 := echo.Reading(e, p)
		if n != want.least || count != want.count || !slices.Equal(sure, want.sure) {
			t.Error(p, n, count, sure, want)
		}
		if !isReading(e, p, reading) || faultsOf(e, p, reading) != want.least {
			t.Error(p, reading, want)
		}
		if e1 != api.OK || e2 != api.OK || e3 != api.OK || e4 != api.OK {
			t.Error(p, e1, e2, e3, e4)
		}
		least[min(n, echo.MaxHeard)]++
		for _, side := range sure {
			open[side]++
		}
	}
	someEchoes(t, 3000, 6, check)
	someEchoes(t, 400, echo.MaxHeard, check)
	if slices.Min(least[:]) < 20 || slices.Min(open[:echo.Noise+1]) < 500 {
		t.Error("too few echoes of a kind:", least, open)
	}
}

func TestFaults(t *testing.T) {
	five := crossed(5, 0)
	for i, x := range []struct {
		e       echo.Echo
		p       echo.Pair
		reading []echo.Place
		faults  int
		want    api.Errno
	}{
		{five, pair(0, 1), places(ofA(0), ofB(0), ofA(1), ofB(1), ofA(2)), 0, api.OK},
		{five, pair(0, 1), places(ofA(0), ofB(0), ofB(1), ofA(1), ofA(2)), 0, api.OK},
		{five, pair(1, 0), places(ofB(0), ofA(0), ofA(1), ofB(1), ofB(2)), 0, api.OK},
		{five, pair(0, 1), places(noise(), noise(), noise(), noise(), noise()), 10, api.OK},
		{five, pair(0, 1), places(ofA(0), noise(), ofB(1), noise(), noise()), 6, api.OK},
		{five, pair(0, 0), places(ofA(0), noise(), ofA(1), ofB(1), ofA(2)), 3, api.OK},
		{five, pair(0, 0), places(ofA(0), noise(), ofB(1), noise(), ofB(2)), 5, api.OK},
		{crossed(0, 0), pair(0, 1), nil, 5, api.OK},
		{crossed(0, 0), pair(0, 1), places(), 5, api.OK},
		{crossed(0, 0), pair(0, 1), places(noise()), 0, api.ErrCount},
		{five, pair(0, 1), nil, 0, api.ErrCount},
		{five, pair(0, 1), places(ofA(0), ofB(0), ofA(1), ofB(1)), 0, api.ErrCount},
		{five, pair(0, 1), places(ofA(0), ofB(0), ofA(1), ofB(1), ofA(2), noise()), 0, api.ErrCount},
		{five, pair(0, 1), places(ofA(9), ofB(9), ofA(9), ofB(9)), 0, api.ErrCount},
		// the places of a text must be later and later
		{five, pair(0, 1), places(ofA(0), ofB(0), ofA(1), ofA(1), ofA(2)), 0, api.ErrFalse},
		{five, pair(0, 0), places(ofA(0), noise(), ofB(1), ofB(1), noise()), 0, api.ErrFalse},
		{echo.Echo{Texts: lists(list(1, 2)), Heard: list(2, 1)}, pair(0, 0), places(ofA(1), ofA(0)), 0, api.ErrFalse},
		{echo.Echo{Texts: lists(list(1, 2)), Heard: list(2, 1)}, pair(0, 0), places(ofA(1), ofB(0)), 2, api.OK},
		{echo.Echo{Texts: lists(list(1, 1, 2)), Heard: list(1, 2, 1)}, pair(0, 0), places(ofA(0), ofB(2), ofA(1)), 3, api.OK},
		{echo.Echo{Texts: lists(list(1, 1, 2)), Heard: list(1, 2, 1)}, pair(0, 0), places(ofA(1), ofB(2), ofA(0)), 0, api.ErrFalse},
		// the same word must stand there
		{five, pair(0, 1), places(ofA(0), ofB(1), noise(), noise(), noise()), 0, api.ErrFalse},
		{five, pair(0, 1), places(ofA(0), ofA(1), noise(), noise(), noise()), 0, api.ErrFalse},
		{five, pair(1, 0), places(ofA(0), noise(), noise(), noise(), noise()), 0, api.ErrFalse},
		// there must be such a place
		{five, pair(0, 1), places(ofA(-1), noise(), noise(), noise(), noise()), 0, api.ErrFalse},
		{five, pair(0, 1), places(noise(), noise(), noise(), noise(), ofA(3)), 0, api.ErrFalse},
		{five, pair(0, 1), places(noise(), noise(), noise(), noise(), ofB(2)), 0, api.ErrFalse},
		{five, pair(0, 1), places(ofA(math.MinInt), noise(), noise(), noise(), noise()), 0, api.ErrFalse},
		{five, pair(0, 1), places(noise(), ofB(math.MaxInt), noise(), noise(), noise()), 0, api.ErrFalse},
		// a word of neither text has the place 0
		{five, pair(0, 1), places(noise(), noise(), noise(), noise(), echo.Place{Side: echo.Noise, At: 1}), 0, api.ErrFalse},
		{five, pair(0, 1), places(echo.Place{Side: echo.Noise, At: -1}, noise(), noise(), noise(), noise()), 0, api.ErrFalse},
		// there must be such a side
		{five, pair(0, 1), places(noise(), noise(), noise(), noise(), echo.Place{}), 0, api.ErrFalse},
		{five, pair(0, 1), places(echo.Place{Side: 4}, noise(), noise(), noise(), noise()), 0, api.ErrFalse},
		{five, pair(0, 1), places(echo.Place{Side: -1}, noise(), noise(), noise(), noise()), 0, api.ErrFalse},
		{five, pair(0, 1), places(noise(), echo.Place{Side: math.MaxInt}, noise(), noise(), noise()), 0, api.ErrFalse},
		{five, pair(0, 1), places(noise(), echo.Place{Side: math.MinInt}, noise(), noise(), noise()), 0, api.ErrFalse},
	} {
		if n, e := echo.Faults(x.e, x.p, x.reading); n != x.faults || e != x.want {
			t.Error(i, n, e)
		}
	}
}

// allPlaces calls a function with all lists of so many places, right ones and wrong ones.
func allPlaces(many int, check func([]echo.Place)) {
	if many == 0 {
		check(nil)
		return
	}
	allPlaces(many-1, func(l []echo.Place) {
		for side := echo.Side(-1); side <= echo.Noise+1; side++ {
			for at := -1; at <= 3; at++ {
				check(append(slices.Clone(l), echo.Place{Side: side, At: at}))
			}
		}
	})
}

func TestFaultsOfAllPlaces(t *testing.T) {
	right := 0
	for _, e := range []echo.Echo{
		{Texts: lists(list(1, 1, 1), list(1, 1)), Heard: list(1, 1, 1)},
		{Texts: lists(list(1, 2, 1), list(2, 1)), Heard: list(2, 1, 2)},
		{Texts: lists(list(1, 2, 1), list(2, 2, 2)), Heard: list(1, 2)},
		{Texts: lists(list(3, 2, 1), list(1)), Heard: list(3, 1)},
		{Texts: lists(list(0), list(0, 0)), Heard: list(0)},
	} {
		for _, p := range pairs(pair(0, 1), pair(1, 0), pair(1, 1)) {
			allPlaces(len(e.Heard), func(l []echo.Place) {
				n, f := echo.Faults(e, p, l)
				if isReading(e, p, l) {
					right++
					if n != faultsOf(e, p, l) || f != api.OK {
						t.Fatal(e, p, l, n, f)
					}
				} else if n != 0 || f != api.ErrFalse {
					t.Fatal(e, p, l, n, f)
				}
			})
		}
	}
	if right < 300 {
		t.Error("too few readings:", right)
	}
}

func TestAllReadingsAreCounted(t *testing.T) {
	someEchoes(t, 60, 3, func(r *rand.Rand, e echo.Echo) {
		p := somePair(r, e)
		e.Texts[p.A], e.Texts[p.B] = e.Texts[p.A][:min(3, len(e.Texts[p.A]))], e.Texts[p.B][:min(3, len(e.Texts[p.B]))]
		least, many := 99, 0
		allPlaces(len(e.Heard), func(l []echo.Place) {
			n, f := echo.Faults(e, p, l)
			if f != api.OK {
				return
			}
			if n < least {
				least, many = n, 0
			}
			if n == least {
				many++
			}
		})
		n, f := echo.Least(e, p)
		count, g := echo.Count(e, p)
		if n != least || count != many || f != api.OK || g != api.OK {
			t.Error(p, n, count, least, many, f, g)
		}
	})
}
