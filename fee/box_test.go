package fee_test

import (
	"math"
	"math/rand"
	"slices"
	"testing"

	"oyez/api"
	"oyez/fee"
)

// P8.1

func TestBoxesThatAreRight(t *testing.T) {
	for i, b := range []fee.Box{
		harbour(),
		largest(),
		{Criers: 1},
		{Criers: 4, Rounds: []fee.Round{}},
		open(1, 1),
		open(4, 1, 9, 1, 9, 1, 9, 1),
		free(1, 7),
		held(open(4, 1, 2), list(3), list(0, 3)),
		changed(func(b *fee.Box) { b.Word, b.Stand, b.Fine = 0, 0, 0 }),
		changed(func(b *fee.Box) { b.Word, b.Stand, b.Fine = 20, 20, 20 }),
		changed(func(b *fee.Box) { b.Rounds[0] = fee.Round{Words: 9, Stands: 5, May: list(0)} }),
	} {
		if e := fee.Check(b); e != api.OK {
			t.Error(i, e)
		}
	}
}

func TestBoxesThatAreWrong(t *testing.T) {
	for i, x := range []struct {
		change func(b *fee.Box)
		e      api.Errno
	}{
		{func(b *fee.Box) { *b = fee.Box{} }, api.ErrCount},
		{func(b *fee.Box) { b.Criers = 0 }, api.ErrCount},
		{func(b *fee.Box) { b.Criers = -1 }, api.ErrCount},
		{func(b *fee.Box) { b.Criers = 5 }, api.ErrCount},
		{func(b *fee.Box) { b.Criers = math.MaxInt }, api.ErrCount},
		{func(b *fee.Box) { b.Criers = math.MinInt }, api.ErrCount},
		{func(b *fee.Box) { b.Rounds = slices.Repeat(b.Rounds, 2) }, api.ErrCount},
		{func(b *fee.Box) { b.Rounds = make([]fee.Round, 8) }, api.ErrCount},
		{func(b *fee.Box) { b.Criers, b.Word = 0, 21 }, api.ErrCount},
		{func(b *fee.Box) { b.Word = -1 }, api.ErrRange},
		{func(b *fee.Box) { b.Word = 21 }, api.ErrRange},
		{func(b *fee.Box) { b.Stand = -1 }, api.ErrRange},
		{func(b *fee.Box) { b.Stand = 21 }, api.ErrRange},
		{func(b *fee.Box) { b.Fine = -1 }, api.ErrRange},
		{func(b *fee.Box) { b.Fine = 21 }, api.ErrRange},
		{func(b *fee.Box) { b.Rounds, b.Fine = nil, math.MaxInt }, api.ErrRange},
		{func(b *fee.Box) { b.Rounds[0].Words = 0 }, api.ErrRange},
		{func(b *fee.Box) { b.Rounds[3].Words = 10 }, api.ErrRange},
		{func(b *fee.Box) { b.Rounds[0].Stands = 0 }, api.ErrRange},
		{func(b *fee.Box) { b.Rounds[3].Stands = 6 }, api.ErrRange},
		{func(b *fee.Box) { b.Rounds[1].Stands = math.MinInt }, api.ErrRange},
		{func(b *fee.Box) { b.Rounds[0].May, b.Rounds[3].Words = nil, -1 }, api.ErrRange},
		{func(b *fee.Box) { b.Rounds[2].May = nil }, api.ErrNone},
		{func(b *fee.Box) { b.Rounds[2].May = list(2) }, api.ErrAbsent},
		{func(b *fee.Box) { b.Rounds[2].May = list(-1, 0) }, api.ErrAbsent},
		{func(b *fee.Box) { b.Rounds[2].May = list(1, 0, 2) }, api.ErrAbsent},
		{func(b *fee.Box) { b.Rounds[2].May = list(0, math.MaxInt) }, api.ErrAbsent},
		{func(b *fee.Box) { b.Criers = 1 }, api.ErrAbsent},
		{func(b *fee.Box) { b.Rounds[2].May = list(1, 0) }, api.ErrOrder},
		{func(b *fee.Box) { b.Rounds[2].May = list(0, 0) }, api.ErrOrder},
		{func(b *fee.Box) { b.Rounds[2].May = list(0, 1, 1) }, api.ErrOrder},
		{func(b *fee.Box) { b.Rounds[2].May = list(0, 1, 0, 1, 0, 1) }, api.ErrOrder},
	} {
		if e := fee.Check(changed(x.change)); e != x.e {
			t.Error(i, e)
		}
	}
}

func TestTheFirstRoundThatIsWrongDecides(t *testing.T) {
	for i, x := range []struct {
		first, second []int
		e             api.Errno
	}{
		{nil, list(2), api.ErrNone},
		{list(2), nil, api.ErrAbsent},
		{list(1, 0), nil, api.ErrOrder},
		{list(1, 1), list(2), api.ErrOrder},
		{list(2, 2), list(1, 0), api.ErrAbsent},
		{list(0), list(1, 0), api.ErrOrder},
	} {
		if e := fee.Check(held(harbour(), list(0), x.first, x.second)); e != x.e {
			t.Error(i, e)
		}
	}
}

// P8.2

func TestFee(t *testing.T) {
	for i, x := range []struct {
		b        fee.Box
		round, n int
		e        api.Errno
	}{
		{harbour(), 0, 12, api.OK},
		{harbour(), 1, 5, api.OK},
		{harbour(), 2, 10, api.OK},
		{harbour(), 3, 3, api.OK},
		{harbour(), 4, 0, api.ErrAbsent},
		{harbour(), -1, 0, api.ErrAbsent},
		{harbour(), math.MaxInt, 0, api.ErrAbsent},
		{harbour(), math.MinInt, 0, api.ErrAbsent},
		{largest(), 6, 1000, api.OK},
		{largest(), 7, 0, api.ErrAbsent},
		{free(2, 1), 0, 0, api.OK},
		{fee.Box{Criers: 1}, 0, 0, api.ErrAbsent},
		{changed(func(b *fee.Box) { b.Word = 0 }), 0, 4, api.OK},
		{changed(func(b *fee.Box) { b.Stand = 0 }), 0, 8, api.OK},
		{changed(func(b *fee.Box) { b.Fine = 0 }), 0, 12, api.OK},
	} {
		if n, e := fee.Fee(x.b, x.round); n != x.n || e != x.e {
			t.Error(i, n, e)
		}
	}
}

func TestFees(t *testing.T) {
	for i, x := range []struct {
		b           fee.Box
		share, fees []int
		spread      int
		e           api.Errno
	}{
		{harbour(), list(0, 0, 1, 1), list(17, 13), 4, api.OK},
		{harbour(), list(1, 0, 0, 1), list(15, 15), 0, api.OK},
		{harbour(), list(0, 0, 0, 1), list(27, 3), 24, api.OK},
		{harbour(), list(1, 1, 1, 1), list(0, 30), 30, api.OK},
		{largest(), list(3, 3, 3, 3, 3, 3, 3), list(0, 0, 0, 7000), 7000, api.OK},
		{open(3, 5, 5), list(0, 2), list(5, 0, 5), 5, api.OK},
		{open(3, 2, 3, 4), list(2, 1, 0), list(4, 3, 2), 2, api.OK},
		{open(1, 4, 5), list(0, 0), list(9), 0, api.OK},
		{open(2), nil, list(0, 0), 0, api.OK},
		{open(4), list(), list(0, 0, 0, 0), 0, api.OK},
		{free(2, 2), list(0, 0), list(0, 0), 0, api.OK},
		{open(2), list(0), nil, 0, api.ErrCount},
		{harbour(), nil, nil, 0, api.ErrCount},
		{harbour(), list(0, 0, 9), nil, 0, api.ErrCount},
		{harbour(), list(0, 0, 0, 1, 0), nil, 0, api.ErrCount},
		{harbour(), list(0, 2, 0, 1), nil, 0, api.ErrAbsent},
		{harbour(), list(0, 0, 0, -1), nil, 0, api.ErrAbsent},
		{harbour(), list(0, 0, 2, 0), nil, 0, api.ErrAbsent},
		{harbour(), list(math.MinInt, 0, 0, math.MaxInt), nil, 0, api.ErrAbsent},
		{harbour(), list(0, 0, 0, 0), nil, 0, api.ErrFalse},
		{held(open(3, 1, 2), list(0, 2)), list(1, 1), nil, 0, api.ErrFalse},
		{held(open(3, 1, 2), list(0, 2)), list(1, 3), nil, 0, api.ErrAbsent},
	} {
		fees, e := fee.Fees(x.b, x.share)
		spread, f := fee.Spread(x.b, x.share)
		if !slices.Equal(fees, x.fees) || spread != x.spread || e != x.e || f != x.e {
			t.Error(i, fees, spread, e, f)
		}
	}
}

func TestFines(t *testing.T) {
	costly := changed(func(b *fee.Box) { b.Fine = 20 })
	gentle := changed(func(b *fee.Box) { b.Fine = 0 })
	for i, x := range []struct {
		b                fee.Box
		share, late, got []int
		less             int
		e                api.Errno
	}{
		{harbour(), list(1, 0, 0, 1), list(4, 10), list(7, 0), 23, api.OK},
		{harbour(), list(1, 0, 0, 1), list(0, 0), list(15, 15), 0, api.OK},
		{harbour(), list(1, 0, 0, 1), list(7, 8), list(1, 0), 29, api.OK},
		{harbour(), list(0, 0, 0, 1), list(13, 1), list(1, 1), 28, api.OK},
		{harbour(), list(1, 1, 1, 1), list(60, 15), list(0, 0), 30, api.OK},
		{harbour(), list(1, 1, 1, 1), list(60, 0), list(0, 30), 0, api.OK},
		{costly, list(0, 0, 1, 1), list(1, 0), list(0, 13), 17, api.OK},
		{gentle, list(0, 0, 1, 1), list(60, 60), list(17, 13), 0, api.OK},
		{largest(), list(0, 0, 1, 2, 2, 2, 2), list(60, 49, 60, 0), list(800, 20, 2800, 0), 3380, api.OK},
		{open(2), nil, list(3, 4), list(0, 0), 0, api.OK},
		{harbour(), list(1, 0, 0, 1), nil, nil, 0, api.ErrCount},
		{harbour(), list(1, 0, 0, 1), list(61), nil, 0, api.ErrCount},
		{harbour(), list(1, 0, 0, 1), list(0, 0, 0), nil, 0, api.ErrCount},
		{harbour(), list(1, 0, 0, 1), list(0, 0, 0, 0), nil, 0, api.ErrCount},
		{harbour(), list(1, 0, 0, 1), list(-1, 0), nil, 0, api.ErrRange},
		{harbour(), list(1, 0, 0, 1), list(0, 61), nil, 0, api.ErrRange},
		{harbour(), list(1, 0, 0, 1), list(0, math.MaxInt), nil, 0, api.ErrRange},
		{harbour(), list(1, 0, 0, 1), list(math.MinInt, 0), nil, 0, api.ErrRange},
		{harbour(), list(1, 0, 0), list(61), nil, 0, api.ErrCount},
		{harbour(), list(1, 0, 0, 2), list(0), nil, 0, api.ErrAbsent},
		{harbour(), list(1, 0, 0, 0), list(0), nil, 0, api.ErrFalse},
		{gentle, list(0, 0, 1, 1), list(61, 0), nil, 0, api.ErrRange},
	} {
		got, less, e := fee.Fines(x.b, x.share, x.late)
		if !slices.Equal(got, x.got) || less != x.less || e != x.e {
			t.Error(i, got, less, e)
		}
	}
}

func TestFeesOfAnyBox(t *testing.T) {
	var none, some int
	someBoxes(t, 1000, fee.MaxRounds, func(r *rand.Rand, b fee.Box) {
		for round := range b.Rounds {
			if n, e := fee.Fee(b, round); n != feeOf(b, round) || e != api.OK {
				t.Error(round, n, e)
			}
		}
		share, late := someShare(r, b), make([]int, b.Criers)
		want := feesOf(b, share)
		fees, e := fee.Fees(b, share)
		spread, f := fee.Spread(b, share)
		if !slices.Equal(fees, want) || spread != spreadOf(b, share) || e != api.OK || f != api.OK {
			t.Error(share, fees, spread, e, f)
		}
		less := 0
		for crier := range late {
			late[crier] = r.Intn(fee.MaxLate + 1)
			for minute := 0; minute < late[crier] && want[crier] > 0; minute++ {
				fined := min(want[crier], b.Fine)
				want[crier] -= fined
				less += fined
			}
			if want[crier] > 0 {
				some++
			} else {
				none++
			}
		}
		got, n, e := fee.Fines(b, share, late)
		if !slices.Equal(got, want) || n != less || e != api.OK {
			t.Error(share, late, got, n, e)
		}
	})
	if min(none, some) < 300 {
		t.Error("too few fines of a kind:", none, some)
	}
}
