package night_test

import (
	"math"
	"math/rand"
	"slices"
	"testing"

	"oyez/api"
	"oyez/night"
)

// P5.3, and Ways of P5.4

func TestNaps(t *testing.T) {
	free := nothingKnown(3, 5)
	for i, x := range []struct {
		w      night.Watch
		nights []int
		n      int
		e      api.Errno
	}{
		{four(), list(2, 2), 1, api.OK},
		{four(), list(2, 4), 2, api.OK},
		{four(), list(6, 15), 4, api.OK},
		{four(), list(6, 2), 2, api.OK},
		{free, list(0, 0, 0, 0, 0), 0, api.OK},
		{free, list(7, 7, 7, 7, 7), 3, api.OK},
		{free, list(1, 0, 1, 0, 1), 3, api.OK},
		{free, list(1, 2, 1, 2, 1), 5, api.OK},
		{free, list(1, 3, 7, 6, 4), 3, api.OK},
		{free, list(0, 7, 0, 7, 0), 6, api.OK},
		{four(), nil, 0, api.ErrCount},
		{four(), list(2), 0, api.ErrCount},
		{four(), list(2, 2, 2), 0, api.ErrCount},
		{four(), list(-1, 16, 3), 0, api.ErrCount},
		{four(), list(2, 16), 0, api.ErrRange},
		{four(), list(-1, 2), 0, api.ErrRange},
		{four(), list(-1, 0), 0, api.ErrRange},
		{four(), list(16, 0), 0, api.ErrRange},
		{four(), list(0, 16), 0, api.ErrFalse},
		{four(), list(2, 0), 0, api.ErrFalse},
		{four(), list(1, math.MinInt), 0, api.ErrFalse},
		{four(), list(4, math.MaxInt), 0, api.ErrRange},
	} {
		if n, e := night.Naps(x.w, x.nights); n != x.n || e != x.e {
			t.Error(i, n, e)
		}
	}
}

func TestNapsOfExplanations(t *testing.T) {
	explainedWatches(t, 200, largest, func(r *rand.Rand, w night.Watch) {
		all := explanations(w)
		for range 20 {
			nights := all[r.Intn(len(all))]
			if n, e := night.Naps(w, nights); n != naps(w, nights) || e != api.OK {
				t.Error(nights, n, e)
			}
			hour := r.Intn(len(nights))
			other := slices.Clone(nights)
			other[hour] = r.Intn(sets(w))
			want := api.OK
			if !fits(w, hour, other[hour]) {
				want = api.ErrFalse
			}
			if n, e := night.Naps(w, other); e != want || e != api.OK && n != 0 {
				t.Error(other, n, e)
			}
		}
	})
}

func TestFewest(t *testing.T) {
	for i, x := range []struct {
		w    night.Watch
		l    []int
		n    int
		ways int
		e    api.Errno
	}{
		{four(), list(2, 2), 1, 2, api.OK},
		{nothingKnown(6, 8), make([]int, 8), 0, 1, api.OK},
		{fourWith(marks(s, u, u, u)), list(1), 1, 1, api.OK},
		{fourWith(marks(h, s, s, s)), list(10), 2, 1, api.OK},
		// man 0, or 1, or 2 slept through all, or all but the hour of which nothing is known
		{fourWith(marks(u, u, s, u), marks(u, u, u, u), marks(u, u, s, u)), list(1, 1, 1), 1, 3, api.OK},
		// an hour between two in which man 2 was awake, or there was another nap before it
		{fourWith(marks(h, h, s, h), marks(u, u, h, u), marks(h, h, s, h)), list(4, 0, 4), 2, 1, api.OK},
		{fourWith(marks(h, h, s, h), marks(h, s, u, h), marks(h, h, s, h)), list(4, 6, 4), 2, 1, api.OK},
		{fourWith(marks(u, u, u, u), marks(u, u, s, u), marks(u, u, u, u)), list(0, 1, 0), 1, 12, api.OK},
		{fourWith(marks(s, h, u, u)), nil, 0, 0, api.ErrClash},
		{fourWith(marks(u, u, u, u), marks(h, s, h, u)), nil, 0, 0, api.ErrClash},
	} {
		l, n, e := night.Fewest(x.w)
		ways, f := night.Ways(x.w)
		if !slices.Equal(l, x.l) || n != x.n || ways != x.ways || e != x.e || f != api.OK {
			t.Error(i, l, n, ways, e, f)
		}
	}
}

// alternating is the watch with the most naps: all men sleep in every other hour.
func alternating() night.Watch {
	w := nothingKnown(6, 8)
	for hour := range w.Hours {
		for man := range w.Hours[hour] {
			w.Hours[hour][man] = marks(s, h)[hour%2]
		}
	}
	return w
}

func TestTheMostNaps(t *testing.T) {
	l, n, e := night.Fewest(alternating())
	if !slices.Equal(l, list(63, 0, 63, 0, 63, 0, 63, 0)) || n != 24 || e != api.OK {
		t.Error(l, n, e)
	}
	table, e := night.Table(alternating())
	if shown, f := night.Shows(alternating(), table); shown != 24 || e != api.OK || f != api.OK {
		t.Error(shown, e, f)
	}
	if ways, e := night.Ways(alternating()); ways != 1 || e != api.OK {
		t.Error(ways, e)
	}
	for man := range 6 {
		if span, e := night.Most(alternating(), man); span != (api.Span{Lo: 4, Hi: 4}) || e != api.OK {
			t.Error(man, span, e)
		}
	}
}

func checkFewest(t *testing.T, w night.Watch) int {
	best, fewest := shortest(w)
	l, n, e := night.Fewest(w)
	ways, f := night.Ways(w)
	if len(best) == 0 {
		if len(l) > 0 || n != 0 || ways != 0 || e != api.ErrClash || f != api.OK {
			t.Error(l, n, ways, e, f)
		}
		return 0
	}
	if !slices.Equal(l, best[0]) || n != fewest || ways != len(best) || e != api.OK || f != api.OK {
		t.Error(l, n, ways, e, f, best)
	}
	return len(best)
}

func TestFewestAndWaysAgainstAllExplanations(t *testing.T) {
	var found [3]int
	for _, most := range []sizes{small, largest} {
		someWatches(t, 1000, most, func(_ *rand.Rand, w night.Watch) {
			found[min(checkFewest(t, w), 2)]++
		})
	}
	if slices.Min(found[:]) < 100 {
		t.Error("too few watches with none, one or several of the fewest naps:", found)
	}
}

// The same hours again and again, or nearly the same, from which some sets fit and others do not.
func TestHoursThatAreAlike(t *testing.T) {
	explainedWatches(t, 500, sizes{3, 2, 1 << 30}, func(r *rand.Rand, w night.Watch) {
		hours := w.Hours
		w.Hours = nil
		for range up(r, 4) {
			w.Hours = append(w.Hours, hours[r.Intn(len(hours))])
		}
		checkFewest(t, w)
		checkTable(t, w)
	})
}

func checkTable(t *testing.T, w night.Watch) {
	table, e := night.Table(w)
	_, fewest := shortest(w)
	if e != api.OK || len(table) != len(w.Hours) {
		t.Fatal(table, e)
	}
	for _, row := range table {
		if len(row) != sets(w) || slices.Min(row) < 0 || slices.Max(row) > night.MaxNaps {
			t.Fatal(row)
		}
	}
	if n, e := shows(w, table); n != fewest || e != api.OK {
		t.Error(table, n, e, fewest)
	}
	if n, e := night.Shows(w, table); n != fewest || e != api.OK {
		t.Error(table, n, e, fewest)
	}
}

func TestTablesHoldAndShowTheFewestNaps(t *testing.T) {
	explainedWatches(t, 500, largest, func(_ *rand.Rand, w night.Watch) { checkTable(t, w) })
}

func TestTheTableOfAWatchWithoutExplanation(t *testing.T) {
	w := fourWith(marks(u, u, u, u), marks(s, h, u, u))
	if table, e := night.Table(w); len(table) > 0 || e != api.ErrClash {
		t.Error(table, e)
	}
	for _, table := range [][][]int{nil, {nil, nil}, {make([]int, 16), make([]int, 16)}} {
		if n, e := night.Shows(w, table); n != 0 || e != api.ErrClash {
			t.Error(table, n, e)
		}
	}
}

func TestShows(t *testing.T) {
	w := night.Watch{Listens: [][]int{nil, {0}}, Hours: [][]night.Mark{marks(u, s), marks(u, s)}}
	for i, x := range []struct {
		table [][]int
		n     int
		e     api.Errno
	}{
		{[][]int{{0, 1, 1, 2}, {0, 1, 1, 2}}, 1, api.OK},
		{[][]int{{0, 0, 0, 0}, {0, 0, 0, 0}}, 0, api.OK},
		{[][]int{{99, 1, 1, 2}, {99, 1, 1, 2}}, 1, api.OK},
		{[][]int{{0, 1, 1, 2}, {0, 1, 0, 2}}, 0, api.OK},
		{[][]int{{0, 1, 1, 2}, {0, 2, 1, 2}}, 0, api.ErrFalse},
		{[][]int{{0, 1, 1, 3}, {0, 1, 1, 2}}, 0, api.ErrFalse},
		{[][]int{{0, 1, 0, 2}, {0, 1, 1, 1}}, 0, api.ErrFalse},
		{[][]int{{0, 0, 1, 2}, {0, 0, 1, 2}}, 0, api.ErrFalse},
		{[][]int{{0, 0, 1, 2}, {0, 0, 1, 1}}, 0, api.OK},
		{nil, 0, api.ErrCount},
		{[][]int{{0, 1, 1, 2}}, 0, api.ErrCount},
		{[][]int{{0, 1, 1, 2}, {0, 1, 1, 2}, {0, 1, 1, 2}}, 0, api.ErrCount},
		{[][]int{{0, 1, 1, 2}, nil}, 0, api.ErrCount},
		{[][]int{{0, 1, 1}, {0, 1, 1, 2}}, 0, api.ErrCount},
		{[][]int{{0, 1, 1, 2}, {0, 1, 1, 2, 0}}, 0, api.ErrCount},
		{[][]int{{0, -1, 100, 2}, {0, 1, 1}}, 0, api.ErrCount},
		{[][]int{{100, 1, 1, 2}, {0, 1, 1, 2}}, 0, api.ErrRange},
		{[][]int{{0, 1, 1, 2}, {-1, 1, 1, 2}}, 0, api.ErrRange},
		{[][]int{{0, 2, 1, 2}, {0, 1, 1, -1}}, 0, api.ErrRange},
		{[][]int{{0, 1, 1, 2}, {0, math.MinInt, math.MaxInt, 2}}, 0, api.ErrRange},
	} {
		if n, e := night.Shows(w, x.table); n != x.n || e != x.e {
			t.Error(i, n, e)
		}
	}
}

// someTable returns a table of which most numbers are as great as they may be, or a bit less, and few are greater.
func someTable(r *rand.Rand, w night.Watch) [][]int {
	var table [][]int
	for hour := range w.Hours {
		table = append(table, nil)
		for _, most := range bounds(w, table, hour) {
			n := most - r.Intn(3)*r.Intn(2)
			if r.Intn(200) == 0 {
				n = most + 1
			}
			table[hour] = append(table[hour], max(0, min(n, night.MaxNaps)))
		}
	}
	return table
}

func TestNoTableShowsMoreThanTheFewestNaps(t *testing.T) {
	var found [2]int
	explainedWatches(t, 300, largest, func(r *rand.Rand, w night.Watch) {
		_, fewest := shortest(w)
		for range 10 {
			table := someTable(r, w)
			want, f := shows(w, table)
			n, e := night.Shows(w, table)
			if n != want || e != f || n > fewest {
				t.Error(table, n, e, want, f, fewest)
			}
			if e == api.OK {
				found[1]++
			} else {
				found[0]++
			}
		}
	})
	if slices.Min(found[:]) < 200 {
		t.Error("too few tables that hold, or do not:", found)
	}
}
