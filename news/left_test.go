package news_test

import (
	"math/rand"
	"slices"
	"testing"

	"oyez/api"
	"oyez/news"
)

// P4.4 and P4.6

func TestLeftInTheExample(t *testing.T) {
	for evenings, want := range [][]news.Gap{gaps(gap(3, 0)), gaps(gap(2, 0), gap(3, 0)), gaps(gap(3, 0)), nil, nil} {
		if l, e := news.Left(row(), rowCries(), evenings); !slices.Equal(l, want) || e != api.OK {
			t.Error(evenings, l, e)
		}
	}
	for i, ask := range []func(news.News, []news.Cry) (int, api.Errno){news.Settles, news.Clear} {
		if n, e := ask(row(), rowCries()); n != 3 || e != api.OK {
			t.Error(i, n, e)
		}
	}
}

func TestNobodyHearsAnything(t *testing.T) {
	n := row()
	n.Links, n.Stands[1] = [][2]int{{0, 1}, {2, 3}}, list(0)
	for evenings := range 3 {
		l, e := news.Left(n, rowCries(), evenings)
		m, f := news.Misled(n, rowCries(), evenings)
		if len(l) > 0 || len(m) > 0 || e != api.OK || f != api.OK {
			t.Error(evenings, l, m, e, f)
		}
	}
	if evenings, e := news.Clear(n, rowCries()); evenings != 0 || e != api.OK {
		t.Error(evenings, e)
	}
	if evenings, e := news.Settles(n, rowCries()); evenings != 1 || e != api.OK {
		t.Error(evenings, e)
	}
}

// A notice that takes back another one misleads nobody, and a house with two gaps is misled once, and by either of them.
func TestMisled(t *testing.T) {
	n := news.News{Houses: 4, Notices: after(-1, -1, 0, 1), Stands: [][]int{{0, 1, 3}, {0, 2, 3}, {3}}}
	c := cries(cry(1, 1), cry(0, 0), cry(2, 2), cry(3, 2))
	for i, want := range [][]int{{0, 1, 2}, {0, 2}, {0, 1}, nil} {
		n.Notices[0].Back, n.Notices[1].Back = i&1 != 0, i&2 != 0
		if l, e := news.Misled(n, c, 1); !slices.Equal(l, want) || e != api.OK {
			t.Error(i, l, e)
		}
		if l, e := news.Left(n, c, 1); !slices.Equal(l, gaps(gap(0, 0), gap(0, 1), gap(1, 0), gap(2, 1))) || e != api.OK {
			t.Error(i, l, e)
		}
	}
}

// Gaps of a house are in the order of their notices, whatever the order of the chains is.
func TestTheOrderOfGaps(t *testing.T) {
	n := news.News{Houses: 2, Notices: after(-1, -1, 0, 2, 1), Stands: [][]int{{0, 1}, {0}}}
	c := cries(cry(2, 1), cry(1, 0), cry(0, 0))
	if l, e := news.Left(n, c, 0); !slices.Equal(l, gaps(gap(0, 1), gap(0, 2), gap(1, 0), gap(1, 1))) || e != api.OK {
		t.Error(l, e)
	}
}

// settled returns the least number of evenings from which on nothing changes.
func settled(all [][][]int) int {
	last := len(all) - 1
	for evening := last; evening >= 0; evening-- {
		for house := range all[evening] {
			if !slices.Equal(all[evening][house], all[last][house]) {
				return evening + 1
			}
		}
	}
	return 0
}

// cleared returns the least number of evenings from which on there is no gap, or ErrNone.
func cleared(n news.News, all [][][]int) (int, api.Errno) {
	from := len(all)
	for from > 0 && len(gapsIn(n, all[from-1])) == 0 {
		from--
	}
	if from == len(all) {
		return 0, api.ErrNone
	}
	return from, api.OK
}

// misled returns the houses that hold a notice which another one follows, and which takes back nothing.
func misled(n news.News, now [][]int) []int {
	var all []int
	for house, notices := range now {
		if slices.ContainsFunc(notices, func(x int) bool { return follower(n, x) != news.None && !n.Notices[x].Back }) {
			all = append(all, house)
		}
	}
	return all
}

func TestLeftAgainstWhatIsHeld(t *testing.T) {
	var many [4]int
	manyNews(t, 600, largest, func(_ *rand.Rand, n news.News, c []news.Cry) {
		all := course(n, c)
		for evenings, now := range all {
			if l, e := news.Left(n, c, evenings); !slices.Equal(l, gapsIn(n, now)) || e != api.OK {
				t.Error(evenings, l, e)
			}
			if l, e := news.Misled(n, c, evenings); !slices.Equal(l, misled(n, now)) || e != api.OK {
				t.Error(evenings, l, e)
			}
		}
		settles, e := news.Settles(n, c)
		if settles != settled(all) || e != api.OK {
			t.Error(settles, e)
		}
		from, e := news.Clear(n, c)
		if want, f := cleared(n, all); from != want || e != f {
			t.Error(from, e, want, f)
		}
		switch {
		case e != api.OK:
			many[0]++
		case from == 0:
			many[1]++
		case from == settles:
			many[2]++
		default:
			many[3]++
		}
	})
	if slices.Min(many[:]) < 10 {
		t.Error("too few news of a kind:", many)
	}
}

// Nobody may be left long before nothing changes any more, or never.
func TestSettlesAndClear(t *testing.T) {
	n := news.News{Houses: 5, Links: line(5), Notices: after(-1, 0, -1), Stands: [][]int{{0}, {0, 4}, {2}, nil}}
	for i, x := range []struct {
		cries          []news.Cry
		settles, clear int
		e              api.Errno
	}{
		{nil, 0, 0, api.OK},
		{cries(cry(0, 3)), 0, 0, api.OK},
		{cries(cry(2, 0)), 4, 0, api.OK},
		{cries(cry(1, 2)), 2, 0, api.OK},
		{cries(cry(0, 0), cry(1, 0)), 4, 0, api.OK},
		{cries(cry(0, 2), cry(1, 1)), 2, 2, api.OK},
		{cries(cry(0, 0), cry(1, 2)), 2, 2, api.OK},
		{cries(cry(0, 1), cry(1, 2), cry(2, 0)), 4, 2, api.OK},
		{cries(cry(0, 2), cry(1, 0)), 4, 4, api.OK},
		{cries(cry(0, 2)), 2, 0, api.ErrNone},
		{cries(cry(0, 2), cry(1, 3)), 2, 0, api.ErrNone},
	} {
		settles, e := news.Settles(n, x.cries)
		from, f := news.Clear(n, x.cries)
		if settles != x.settles || from != x.clear || e != api.OK || f != x.e {
			t.Error(i, settles, from, e, f)
		}
	}
}

func TestSpareInTheExample(t *testing.T) {
	three := append(rowCries(), cry(0, 1))
	for i, x := range []struct {
		cries    []news.Cry
		evenings int
		want     []int
	}{
		{rowCries(), 0, nil},
		{rowCries(), 1, nil},
		{rowCries(), 2, nil},
		{rowCries(), 3, list(0)},
		{rowCries(), 12, list(0)},
		{three, 1, list(0, 2)},
		{nil, 1, nil},
		{cries(cry(0, 0), cry(0, 1)), 0, list(0)},
		{cries(cry(0, 0), cry(0, 1)), 2, list(0)},
		{cries(cry(0, 0), cry(0, 1)), 3, list(0, 1)},
	} {
		if l, e := news.Spare(row(), x.cries, x.evenings); !slices.Equal(l, x.want) || e != api.OK {
			t.Error(i, l, e)
		}
	}
}

// A cry at a stand that nobody hears can be left out.
func TestACryThatNobodyHears(t *testing.T) {
	n := row()
	n.Stands = append(n.Stands, nil)
	if l, e := news.Spare(n, cries(cry(1, 2), cry(0, 0)), 2); !slices.Equal(l, list(0)) || e != api.OK {
		t.Error(l, e)
	}
}

func TestSpareAgainstWhatIsHeld(t *testing.T) {
	var many [2]int
	manyNews(t, 400, sizes{8, 12, 6, 5, 10}, func(r *rand.Rand, n news.News, c []news.Cry) {
		evenings := r.Intn(5)
		now := course(n, c)[evenings]
		var want []int
		for i := range c {
			others := slices.Concat(c[:i], c[i+1:])
			if slices.EqualFunc(course(n, others)[evenings], now, slices.Equal) {
				want = append(want, i)
			}
		}
		if l, e := news.Spare(n, c, evenings); !slices.Equal(l, want) || e != api.OK {
			t.Error(evenings, l, e, want)
		}
		many[0] += len(want)
		many[1] += len(c) - len(want)
	})
	if slices.Min(many[:]) < 100 {
		t.Error("too few cries of a kind:", many)
	}
}
