package round_test

import (
	"reflect"
	"slices"
	"testing"

	"oyez/api"
	"oyez/round"
)

// P3.1

func TestBeatsThatAreRight(t *testing.T) {
	one := round.Beat{Walks: [][]int{{0}}, Hears: [][]int{nil}, Houses: 1}
	said := one
	said.Notices = []round.Notice{notice(5, 200, 0), notice(1, 0, 0), notice(5, 0, 0)}
	odd := row()
	odd.Hears = [][]int{list(2, 0, 1), nil, list(1)}
	odd.Notices[0].Quarter = list(2, 1, 0)
	odd.Start = 2
	apart := row()
	apart.Walks = [][]int{{0, -1, -1}, {-1, 0, -1}, {-1, -1, 0}}
	nine := widest()
	ten := widest()
	ten.Notices[2].Quarter = list(0, 4, 2)
	for i, x := range []struct {
		b round.Beat
		e api.Errno
	}{
		{row(), api.OK},
		{one, api.OK},
		{said, api.OK},
		{odd, api.OK},
		{apart, api.OK},
		{nine, api.OK},
		{ten, api.ErrCount},
		{round.Beat{}, api.ErrCount},
	} {
		if e := round.Check(x.b); e != x.e {
			t.Error(i, e)
		}
	}
}

func TestTheNumbersOfABeat(t *testing.T) {
	for i, x := range []struct {
		set     func(b *round.Beat, n int)
		lo, hi  int
		outside api.Errno
	}{
		{func(b *round.Beat, n int) { b.Start = n }, 0, 2, api.ErrAbsent},
		{func(b *round.Beat, n int) { b.Walks[0][2] = n }, 1, 20, api.ErrRange},
		{func(b *round.Beat, n int) { b.Walks[1][1] = n }, 0, 0, api.ErrRange},
		{func(b *round.Beat, n int) { b.Hears[1] = list(n) }, 0, 2, api.ErrAbsent},
		{func(b *round.Beat, n int) { b.Notices[0].Quarter = list(n) }, 0, 2, api.ErrAbsent},
		{func(b *round.Beat, n int) { b.Notices[1].Words = n }, 1, 5, api.ErrRange},
		{func(b *round.Beat, n int) { b.Notices[0].Hour = n }, 0, 200, api.ErrRange},
	} {
		for n := -3; n <= 203; n++ {
			b := row()
			x.set(&b, n)
			want := x.outside
			if n >= x.lo && n <= x.hi || i == 1 && n == round.None {
				want = api.OK
			}
			if e := round.Check(b); e != want {
				t.Error(i, n, e)
			}
		}
	}
}

func TestTheFirstStandAndTheFirstNoticeDecide(t *testing.T) {
	for i, x := range []struct {
		change func(b *round.Beat)
		e      api.Errno
	}{
		{func(b *round.Beat) { b.Hears = [][]int{nil, list(1, 1), list(3)} }, api.ErrTwice},
		{func(b *round.Beat) { b.Hears = [][]int{list(0), list(3), list(1, 1)} }, api.ErrAbsent},
		{func(b *round.Beat) { b.Hears = [][]int{list(0, 0, 3), nil, nil} }, api.ErrTwice},
		{func(b *round.Beat) { b.Hears = [][]int{list(0, 3, 3), nil, nil} }, api.ErrAbsent},
		{func(b *round.Beat) { b.Hears[2] = list(7); b.Notices[0].Quarter = nil }, api.ErrAbsent},
		{func(b *round.Beat) { b.Notices[0].Hour = 999; b.Notices[1].Quarter = nil }, api.ErrRange},
		{func(b *round.Beat) { b.Notices[0].Quarter = list(1, 1); b.Notices[1].Quarter = list(9) }, api.ErrTwice},
		{func(b *round.Beat) { b.Notices[0].Quarter = list(9); b.Notices[1].Quarter = nil }, api.ErrAbsent},
		{func(b *round.Beat) { b.Notices[1].Quarter = nil; b.Notices[1].Hour = -1 }, api.ErrNone},
		{func(b *round.Beat) { b.Notices[1].Quarter = list(2, 2); b.Notices[1].Words = 0 }, api.ErrTwice},
	} {
		b := row()
		x.change(&b)
		if e := round.Check(b); e != x.e {
			t.Error(i, e)
		}
	}
}

func TestPairsAreInOrder(t *testing.T) {
	b := row()
	b.Notices = []round.Notice{notice(1, 9, 2, 0, 1), notice(1, 9, 1), notice(1, 9, 2, 0)}
	want := []round.Pair{pair(0, 0), pair(0, 1), pair(0, 2), pair(1, 1), pair(2, 0), pair(2, 2)}
	if l, e := round.Pairs(b); !slices.Equal(l, want) || e != api.OK {
		t.Error(l, e)
	}
	b.Notices = nil
	if l, e := round.Pairs(b); len(l) != 0 || e != api.OK {
		t.Error(l, e)
	}
	if l, e := round.Pairs(widest()); len(l) != 9 || e != api.OK {
		t.Error(l, e)
	}
}

func TestPut(t *testing.T) {
	for _, b := range []round.Beat{row(), widest()} {
		for i := range b.Notices {
			for _, hour := range list(0, 1, 150, 200) {
				want := clone(b)
				want.Notices[i].Hour = hour
				if put, e := round.Put(b, i, hour); !reflect.DeepEqual(put, want) || e != api.OK {
					t.Error(i, hour, put, e)
				}
			}
		}
	}
}
