package round_test

import (
	"math/rand"
	"slices"
	"testing"

	"oyez/api"
	"oyez/round"
)

// P3.2 and P3.3

// takes returns the minutes of straight ways one after the other, or far if one of them is none.
func takes(b round.Beat, path []int) int {
	total := 0
	for i := 1; i < len(path); i++ {
		n := b.Walks[path[i-1]][path[i]]
		if n < 1 {
			return far
		}
		total += n
	}
	return total
}

func TestWalksAndPaths(t *testing.T) {
	one := row()
	one.Walks[1][2] = round.None
	longer := row()
	longer.Walks[0][2], longer.Walks[2][0] = 5, 3
	as := row()
	as.Walks[0][2] = 4
	for i, x := range []struct {
		b           round.Beat
		from, to, n int
		e           api.Errno
	}{
		{row(), 0, 2, 4, api.OK},
		{row(), 2, 2, 0, api.OK},
		{one, 0, 2, 0, api.ErrNone},
		{one, 1, 2, 0, api.ErrNone},
		{one, 2, 0, 4, api.OK},
		{one, 2, 2, 0, api.OK},
		{longer, 0, 2, 4, api.OK},
		{longer, 2, 0, 3, api.OK},
		{as, 0, 2, 4, api.OK},
		{widest(), 3, 1, 20, api.OK},
	} {
		n, e := round.Walk(x.b, x.from, x.to)
		path, f := round.Path(x.b, x.from, x.to)
		if n != x.n || e != x.e || f != x.e || e == api.OK && takes(x.b, path) != n {
			t.Error(i, n, path, e, f)
		}
	}
}

func TestWalksAreTheQuickest(t *testing.T) {
	someBeats(t, 1000, sizes{5, 1, 0, 0}, func(_ *rand.Rand, b round.Beat) {
		for from, quickest := range minutes(b) {
			for to, want := range quickest {
				n, e := round.Walk(b, from, to)
				path, f := round.Path(b, from, to)
				if want == far {
					if n != 0 || len(path) != 0 || e != api.ErrNone || f != api.ErrNone {
						t.Error(from, to, n, path, e, f)
					}
					continue
				}
				if n != want || e != api.OK || f != api.OK || takes(b, path) != want || path[0] != from || path[len(path)-1] != to {
					t.Error(from, to, n, path, want, e, f)
				}
				if from == to && len(path) != 1 {
					t.Error("does not stay:", from, path)
				}
			}
		}
	})
}

func TestRoundsOfTheExamples(t *testing.T) {
	for i, x := range []struct {
		round  []round.Cry
		ends   []int
		heard  [][]int
		missed []round.Pair
	}{
		{[]round.Cry{cry(0, 0), cry(2, 0), cry(2, 1)}, list(3, 10, 11), [][]int{{3, 10, 10}, {-1, 11, 11}}, nil},
		{[]round.Cry{cry(0, 0), cry(1, 1), cry(2, 0)}, list(3, 6, 11), [][]int{{3, 11, 11}, {-1, 6, -1}}, nil},
		{[]round.Cry{cry(1, 0)}, list(5), [][]int{{-1, 5, -1}, {-1, -1, -1}}, []round.Pair{pair(0, 0), pair(0, 2), pair(1, 1)}},
		{[]round.Cry{cry(2, 1), cry(2, 1), cry(1, 1)}, list(5, 6, 9), [][]int{{-1, -1, -1}, {-1, 5, 5}}, []round.Pair{pair(0, 0), pair(0, 2)}},
		{nil, nil, [][]int{{-1, -1, -1}, {-1, -1, -1}}, []round.Pair{pair(0, 0), pair(0, 2), pair(1, 1)}},
	} {
		ends, e := round.Ends(row(), x.round)
		heard, f := round.Heard(row(), x.round)
		missed, g := round.Missed(row(), x.round)
		if !slices.Equal(ends, x.ends) || !slices.EqualFunc(heard, x.heard, slices.Equal) || !slices.Equal(missed, x.missed) || e != api.OK || f != api.OK || g != api.OK {
			t.Error(i, ends, heard, missed, e, f, g)
		}
	}
}

func TestAnHourIncludesItsMinute(t *testing.T) {
	all := []round.Cry{cry(0, 0), cry(2, 0), cry(2, 1)}
	for i, x := range []struct {
		hours  []int
		missed []round.Pair
	}{
		{list(10, 11), nil},
		{list(9, 11), []round.Pair{pair(0, 2)}},
		{list(10, 10), []round.Pair{pair(1, 1)}},
		{list(3, 0), []round.Pair{pair(0, 2), pair(1, 1)}},
		{list(2, 11), []round.Pair{pair(0, 0), pair(0, 2)}},
	} {
		if l, e := round.Missed(rowBy(x.hours...), all); !slices.Equal(l, x.missed) || e != api.OK {
			t.Error(i, l, e)
		}
	}
}

func TestRoundsOfTwentyCries(t *testing.T) {
	full := slices.Repeat([]round.Cry{cry(2, 0), cry(0, 1)}, 10)
	ends, e := round.Ends(row(), full)
	if len(ends) != 20 || ends[19] != 20*4+10*3+10 || e != api.OK {
		t.Error(ends, e)
	}
	none := row()
	none.Notices = nil
	if heard, e := round.Heard(none, nil); len(heard) != 0 || e != api.OK {
		t.Error(heard, e)
	}
	if missed, e := round.Missed(none, nil); len(missed) != 0 || e != api.OK {
		t.Error(missed, e)
	}
}

// someRound returns a round that walks lead through, or ErrNone if one does not lead on.
func someRound(r *rand.Rand, b round.Beat) ([]round.Cry, api.Errno) {
	if len(b.Notices) == 0 {
		return nil, api.OK
	}
	var l []round.Cry
	walks, stand := minutes(b), b.Start
	e := api.OK
	for range r.Intn(8) {
		c := cry(r.Intn(len(b.Walks)), r.Intn(len(b.Notices)))
		l = append(l, c)
		if walks[stand][c.Stand] == far {
			return l, api.ErrNone
		}
		stand = c.Stand
	}
	return l, e
}

// told returns what the terms of the chapter say of a round.
func told(b round.Beat, l []round.Cry) (ends []int, heard [][]int, missed []round.Pair) {
	walks, stand, end := minutes(b), b.Start, 0
	for _, c := range l {
		end += walks[stand][c.Stand] + b.Notices[c.Notice].Words
		stand = c.Stand
		ends = append(ends, end)
	}
	for i := range b.Notices {
		heard = append(heard, nil)
		for house := range b.Houses {
			k := slices.IndexFunc(l, func(c round.Cry) bool { return hears(b, c, pair(i, house)) })
			if k < 0 {
				heard[i] = append(heard[i], round.None)
			} else {
				heard[i] = append(heard[i], ends[k])
			}
		}
	}
	for _, p := range allPairs(b) {
		if n := heard[p.Notice][p.House]; n == round.None || n > b.Notices[p.Notice].Hour {
			missed = append(missed, p)
		}
	}
	return ends, heard, missed
}

func TestRounds(t *testing.T) {
	led := 0
	someBeats(t, 3000, sizes{5, 5, 3, 9}, func(r *rand.Rand, b round.Beat) {
		l, want := someRound(r, b)
		ends, e := round.Ends(b, l)
		heard, f := round.Heard(b, l)
		missed, g := round.Missed(b, l)
		if e != want || f != want || g != want {
			t.Error(l, e, f, g, want)
		}
		if want != api.OK {
			return
		}
		led++
		a, c, d := told(b, l)
		if !slices.Equal(ends, a) || !slices.EqualFunc(heard, c, slices.Equal) || !slices.Equal(missed, d) {
			t.Error(l, ends, heard, missed)
		}
	})
	if led < 500 {
		t.Error("too few rounds that walks lead through:", led)
	}
}
