package fee_test

import (
	"math"
	"math/rand"
	"slices"
	"testing"

	"oyez/api"
	"oyez/fee"
)

// P8.4 and P8.5

func TestBestAndClosest(t *testing.T) {
	shut := held(harbour(), list(1), list(0, 1), list(1))
	for i, x := range []struct {
		b        fee.Box
		best     []int
		greatest int
		closest  []int
		spread   int
	}{
		{harbour(), list(1, 0, 0, 1), 15, list(1, 0, 0, 1), 0},
		{shut, list(1, 0, 1, 1), 25, list(1, 0, 1, 1), 20},
		{open(3), nil, 0, nil, 0},
		{open(1, 4, 5), list(0, 0), 9, list(0, 0), 0},
		{open(3, 4, 4, 4), list(0, 1, 2), 4, list(0, 1, 2), 0},
		{open(3, 5), list(0), 5, list(0), 5},
		{open(3, 7, 1), list(0, 1), 7, list(0, 1), 7},
		{free(3, 4), list(0, 0, 0, 0), 0, list(0, 0, 0, 0), 0},
		{largest(), list(0, 0, 1, 1, 2, 2, 3), 2000, list(0, 0, 1, 1, 2, 2, 3), 1000},
		// the best share is not the closest one, nor the other way round
		{open(3, 3, 3, 2, 2, 2), list(0, 1, 0, 1, 2), 5, list(0, 1, 0, 2, 2), 2},
		{held(open(3, 9, 3, 3), list(0), list(0, 1), list(0, 1)), list(0, 1, 1), 9, list(0, 1, 1), 9},
		{held(open(3, 9, 1, 2), list(0), list(0, 1), list(1, 2)), list(0, 1, 1), 9, list(0, 1, 2), 8},
		{held(open(2, 4, 5, 6), list(1), list(0, 1), list(0)), list(1, 1, 0), 9, list(1, 1, 0), 3},
		{held(open(3, 8, 4, 1, 3, 1), list(0, 1, 2), list(1), list(0), list(1, 2)), list(2, 1, 0, 1, 0), 8, list(0, 1, 0, 2, 2), 5},
	} {
		best, greatest, e := fee.Best(x.b)
		closest, spread, f := fee.Closest(x.b)
		if !slices.Equal(best, x.best) || greatest != x.greatest || e != api.OK {
			t.Error(i, best, greatest, e)
		}
		if !slices.Equal(closest, x.closest) || spread != x.spread || f != api.OK {
			t.Error(i, closest, spread, f)
		}
	}
}

func TestBestAndClosestOfAnyBox(t *testing.T) {
	other := 0
	check := func(_ *rand.Rand, b fee.Box) {
		best, greatest, e := fee.Best(b)
		if share, n := leastOf(b, greatestOf); !slices.Equal(best, share) || greatest != n || e != api.OK {
			t.Error(best, greatest, e, share, n)
		}
		closest, spread, e := fee.Closest(b)
		if share, n := leastOf(b, spreadOf); !slices.Equal(closest, share) || spread != n || e != api.OK {
			t.Error(closest, spread, e, share, n)
		}
		if !slices.Equal(best, closest) {
			other++
		}
	}
	someBoxes(t, 1000, 5, check)
	someBoxes(t, 50, fee.MaxRounds, check)
	if other < 50 {
		t.Error("too few boxes of which another share is closest:", other)
	}
}

func TestBound(t *testing.T) {
	for i, x := range []struct {
		b      fee.Box
		rounds []int
		n      int
		e      api.Errno
	}{
		{harbour(), list(0, 1, 2, 3), 15, api.OK},
		{harbour(), list(0, 3), 8, api.OK},
		{harbour(), list(3, 0), 8, api.OK},
		{harbour(), list(3), 3, api.OK},
		{harbour(), list(1), 3, api.OK},
		{harbour(), list(2, 1), 8, api.OK},
		{harbour(), nil, 0, api.OK},
		{open(2), nil, 0, api.OK},
		{free(2, 3), list(0, 1, 2), 0, api.OK},
		{largest(), numbers(7), 1750, api.OK},
		{open(3, 4, 3), list(0, 1), 3, api.OK},
		{open(3, 4, 2), list(0, 1), 2, api.OK},
		{held(open(3, 4, 3), list(0), list(0)), list(0, 1), 7, api.OK},
		{held(open(3, 4, 3), list(0), list(2)), list(0, 1), 4, api.OK},
		{held(open(4, 9, 1), list(0, 2), list(2, 3)), list(1, 0), 4, api.OK},
		{harbour(), list(4), 0, api.ErrAbsent},
		{harbour(), list(-1), 0, api.ErrAbsent},
		{harbour(), list(4, 4), 0, api.ErrAbsent},
		{harbour(), list(1, 1, 4), 0, api.ErrAbsent},
		{harbour(), list(0, math.MinInt), 0, api.ErrAbsent},
		{harbour(), list(0, math.MaxInt), 0, api.ErrAbsent},
		{open(2), list(0), 0, api.ErrAbsent},
		{harbour(), list(1, 1), 0, api.ErrTwice},
		{harbour(), list(3, 1, 2, 3), 0, api.ErrTwice},
		{harbour(), list(0, 1, 2, 3, 0), 0, api.ErrTwice},
	} {
		if n, e := fee.Bound(x.b, x.rounds); n != x.n || e != x.e {
			t.Error(i, n, e)
		}
	}
}

func TestGreatest(t *testing.T) {
	for i, x := range []struct {
		b      fee.Box
		rounds []int
		n      int
	}{
		{harbour(), list(0, 1, 2, 3), 15},
		{held(harbour(), list(1), list(0, 1), list(1)), list(0, 2, 3), 25},
		{open(2), nil, 0},
		{free(2, 3), nil, 0},
		{largest(), numbers(7), 1750},
		{open(3, 5), list(0), 2},
		// of several lists the shortest one: of 7 and 1 pence the first alone, too, must be shared by three
		{open(3, 7, 1), list(0), 3},
		{open(3, 1, 7), list(1), 3},
		{open(2, 1, 1), list(0), 1},
		{open(3, 1, 3, 4, 3), list(1, 2, 3), 4},
		{open(3, 2, 3, 4, 3), list(1, 2, 3), 4},
		// of several of the shortest lists the first one
		{open(3, 2, 2, 2, 2), list(0, 1, 2, 3), 3},
		{open(2, 3, 4, 3, 4), list(0, 1, 2, 3), 7},
		{open(2, 3, 4, 4, 2), list(0, 1, 2, 3), 7},
		{open(3, 3, 3, 2, 2, 2), list(0, 1, 2, 3), 4},
		{held(open(2, 4, 4), list(1), list(0)), list(0), 4},
		{held(open(2, 3, 4), list(1), list(0)), list(1), 4},
		{held(open(3, 2, 2, 4), list(0), list(0), list(1)), list(2), 4},
		{held(open(3, 2, 3, 2, 3), list(0), list(1), list(0), list(1)), list(1, 3), 6},
		{held(open(3, 3, 3, 3, 3), list(0), list(1), list(0), list(1)), list(0, 2), 6},
	} {
		rounds, n, e := fee.Greatest(x.b)
		if !slices.Equal(rounds, x.rounds) || n != x.n || e != api.OK {
			t.Error(i, rounds, n, e)
		}
	}
}

func TestBoundsOfAnyBox(t *testing.T) {
	var count [fee.MaxRounds + 1]int
	someBoxes(t, 1500, fee.MaxRounds, func(r *rand.Rand, b fee.Box) {
		for range 5 {
			rounds := someRounds(r, b)
			if n, e := fee.Bound(b, rounds); n != boundOf(b, rounds) || e != api.OK {
				t.Error(rounds, n, e)
			}
		}
		rounds, n, e := fee.Greatest(b)
		if want, most := boundMostOf(b); !slices.Equal(rounds, want) || n != most || e != api.OK {
			t.Error(rounds, n, e, want, most)
		}
		count[len(rounds)]++
	})
	if slices.Min(count[:]) < 20 {
		t.Error("too few boxes of a kind:", count)
	}
}
