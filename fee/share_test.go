package fee_test

import (
	"math/rand"
	"slices"
	"testing"

	"oyez/api"
	"oyez/fee"
)

// P8.3

// moves returns some of them, told by their rounds and the criers to whom they give these.
func moves(told ...int) []fee.Move {
	var l []fee.Move
	for i := 0; i < len(told); i += 2 {
		l = append(l, fee.Move{Round: told[i], To: told[i+1]})
	}
	return l
}

// swaps returns some of them, told by their rounds.
func swaps(told ...int) []fee.Swap {
	var l []fee.Swap
	for i := 0; i < len(told); i += 2 {
		l = append(l, fee.Swap{A: told[i], B: told[i+1]})
	}
	return l
}

func TestMovesAndSwaps(t *testing.T) {
	for i, x := range []struct {
		b       fee.Box
		share   []int
		moves   []fee.Move
		swaps   []fee.Swap
		settled []int
		many    int
	}{
		{harbour(), list(0, 0, 1, 1), nil, swaps(0, 2), list(0, 0, 1, 1), 0},
		{harbour(), list(0, 0, 0, 1), moves(0, 1, 1, 1, 2, 1), nil, list(1, 0, 0, 1), 1},
		{harbour(), list(1, 0, 0, 1), nil, nil, list(1, 0, 0, 1), 0},
		{harbour(), list(1, 1, 1, 1), moves(0, 0, 1, 0, 2, 0), nil, list(0, 0, 1, 1), 2},
		{harbour(), list(1, 1, 0, 1), moves(1, 0), swaps(0, 2), list(1, 0, 0, 1), 1},
		{open(3, 5, 5), list(0, 0), moves(0, 1, 0, 2, 1, 1, 1, 2), nil, list(1, 0), 1},
		{open(3, 5, 5), list(2, 2), moves(0, 0, 0, 1, 1, 0, 1, 1), nil, list(0, 2), 1},
		// to give a round away to have the same fee does not even, nor does to exchange rounds with the same fee
		{open(2, 5), list(0), nil, nil, list(0), 0},
		{open(2, 3, 3), list(0, 1), nil, nil, list(0, 1), 0},
		{open(2, 2, 2, 2), list(0, 0, 1), nil, nil, list(0, 0, 1), 0},
		{open(2, 2, 1, 1), list(0, 1, 1), nil, nil, list(0, 1, 1), 0},
		// fees of 6 and 2 become 3 and 5; those of 4 and 2 would only change places
		{open(2, 5, 1, 2), list(0, 0, 1), moves(1, 1), swaps(0, 2), list(0, 1, 1), 1},
		{open(2, 1, 5, 2), list(0, 0, 1), moves(0, 1), swaps(1, 2), list(1, 0, 1), 1},
		{open(2, 4, 2), list(0, 1), nil, nil, list(0, 1), 0},
		{open(2, 4, 2, 1), list(0, 1, 1), nil, nil, list(0, 1, 1), 0},
		{held(open(2, 5, 1, 2), list(0)), list(0, 0, 1), moves(1, 1), nil, list(0, 1, 1), 1},
		{held(open(2, 5, 1, 2), list(0, 1), list(0, 1), list(1)), list(0, 0, 1), moves(1, 1), nil, list(0, 1, 1), 1},
		{held(open(3, 9, 1), list(0, 1), list(1, 2)), list(0, 1), nil, nil, list(0, 1), 0},
		{held(open(3, 9, 1), list(0, 1), list(1, 2)), list(1, 1), moves(0, 0, 1, 2), nil, list(0, 1), 1},
		// where no round costs anything, no fee is less than another one
		{free(2, 2), list(0, 0), nil, nil, list(0, 0), 0},
		{open(1, 4, 5), list(0, 0), nil, nil, list(0, 0), 0},
		{open(4), nil, nil, nil, nil, 0},
		{largest(), list(0, 0, 0, 0, 0, 0, 0), moves(0, 1, 0, 2, 0, 3, 1, 1, 1, 2, 1, 3, 2, 1, 2, 2, 2, 3, 3, 1, 3, 2, 3, 3, 4, 1, 4, 2, 4, 3, 5, 1, 5, 2, 5, 3, 6, 1, 6, 2, 6, 3), nil, list(2, 3, 1, 1, 2, 0, 0), 7},
	} {
		m, e := fee.Moves(x.b, x.share)
		s, f := fee.Swaps(x.b, x.share)
		settled, many, g := fee.Settle(x.b, x.share)
		if !slices.Equal(m, x.moves) || !slices.Equal(s, x.swaps) || !slices.Equal(settled, x.settled) || many != x.many || e != api.OK || f != api.OK || g != api.OK {
			t.Error(i, m, s, settled, many, e, f, g)
		}
	}
}

func TestMovesAndSwapsOfAnyShare(t *testing.T) {
	var count [3]int
	someBoxes(t, 2000, fee.MaxRounds, func(r *rand.Rand, b fee.Box) {
		share := someShare(r, b)
		m, e := fee.Moves(b, share)
		s, f := fee.Swaps(b, share)
		settled, many, g := fee.Settle(b, share)
		want, steps := settledOf(b, share)
		if !slices.Equal(m, movesOf(b, share)) || !slices.Equal(s, swapsOf(b, share)) || e != api.OK || f != api.OK {
			t.Error(share, m, s, e, f)
		}
		if !slices.Equal(settled, want) || many != steps || g != api.OK {
			t.Error(share, settled, many, g, want, steps)
		}
		for i, n := range list(len(m), len(s), many) {
			if n > 1 {
				count[i]++
			}
		}
	})
	if slices.Min(count[:]) < 200 {
		t.Error("too few shares of a kind:", count)
	}
}
