package news_test

import (
	"math"
	"math/rand"
	"slices"
	"testing"

	"oyez/api"
	"oyez/news"
)

// P4.1

func TestNewsThatAreRight(t *testing.T) {
	wide, _ := widest()
	other := row()
	other.Links = [][2]int{{3, 2}, {1, 0}, {2, 1}, {0, 3}}
	other.Notices = after(-1, -1, 1, 0, 2)
	other.Stands = [][]int{{}, {0, 1, 2, 3}, nil, {0, 1, 2, 3}}
	for i, x := range []struct {
		n news.News
		e api.Errno
	}{
		{row(), api.OK},
		{wide, api.OK},
		{other, api.OK},
		{news.News{Houses: 1, Notices: after(-1), Stands: [][]int{nil}}, api.OK},
		{news.News{}, api.ErrCount},
		{news.News{Houses: 1, Notices: after(-1)}, api.ErrCount},
		{news.News{Houses: 1, Stands: [][]int{nil}}, api.ErrCount},
	} {
		if e := news.Check(x.n); e != x.e {
			t.Error(i, e)
		}
	}
}

func TestTheNumbersOfNews(t *testing.T) {
	for i, x := range []struct {
		set     func(n *news.News, to int)
		lo, hi  int
		outside api.Errno
	}{
		{func(n *news.News, to int) { n.Houses = to }, 4, 10, api.ErrCount},
		{func(n *news.News, to int) { n.Links = [][2]int{{to, 0}} }, 1, 3, api.ErrAbsent},
		{func(n *news.News, to int) { n.Links = [][2]int{{3, to}} }, 0, 2, api.ErrAbsent},
		{func(n *news.News, to int) { n.Notices = after(-1, -1, -1, to) }, -1, 2, api.ErrAbsent},
		{func(n *news.News, to int) { n.Stands[0] = list(to) }, 0, 3, api.ErrAbsent},
		{func(n *news.News, to int) { n.Stands[1] = list(1, to) }, 2, 3, api.ErrAbsent},
	} {
		for to := -3; to <= 12; to++ {
			n := row()
			x.set(&n, to)
			want := x.outside
			switch {
			case to >= x.lo && to <= x.hi:
				want = api.OK
			case i == 0 && to > 0 && to < 4:
				want = api.ErrAbsent
			case i == 1 && to == 0, i == 2 && to == 3:
				want = api.ErrFalse
			case i == 5 && (to == 0 || to == 1):
				want = api.ErrOrder
			}
			if e := news.Check(n); e != want {
				t.Error(i, to, e, want)
			}
		}
	}
}

func TestHowMuchNewsCanHave(t *testing.T) {
	var pairs [][2]int
	for b := range 7 {
		for a := range b {
			pairs = append(pairs, [2]int{a, b})
		}
	}
	for many := range 20 {
		links, notices, stands := row(), row(), row()
		links.Houses, links.Links = 7, pairs[:many]
		notices.Notices = slices.Repeat(after(-1), many)
		stands.Stands = slices.Repeat([][]int{{0, 2}}, many)
		for i, x := range []struct {
			n      news.News
			lo, hi int
		}{{links, 0, 15}, {notices, 1, 8}, {stands, 1, 6}} {
			if e := news.Check(x.n); (e == api.OK) != (many >= x.lo && many <= x.hi) || e != api.OK && e != api.ErrCount {
				t.Error(i, many, e)
			}
		}
	}
}

func TestListsAreAskedAsAWhole(t *testing.T) {
	for i, x := range []struct {
		change func(n *news.News)
		e      api.Errno
	}{
		{func(n *news.News) { n.Links = [][2]int{{1, 1}, {0, 9}} }, api.ErrAbsent},
		{func(n *news.News) { n.Links = [][2]int{{0, 1}, {1, 0}, {2, 2}} }, api.ErrFalse},
		{func(n *news.News) { n.Links = [][2]int{{0, 1}, {2, 3}, {1, 0}} }, api.ErrTwice},
		{func(n *news.News) { n.Links = [][2]int{{3, 2}, {0, 1}, {3, 2}} }, api.ErrTwice},
		{func(n *news.News) { n.Links = [][2]int{{9, 9}} }, api.ErrAbsent},
		{func(n *news.News) { n.Notices = after(-1, 0, 0, 3) }, api.ErrAbsent},
		{func(n *news.News) { n.Notices = after(-1, 0, 0) }, api.ErrTwice},
		{func(n *news.News) { n.Notices = after(-1, -1, 0, 1, 0) }, api.ErrTwice},
		{func(n *news.News) { n.Stands = [][]int{{2, 1}, {4}} }, api.ErrAbsent},
		{func(n *news.News) { n.Stands = [][]int{{0, 3}, {1, 3, 2}} }, api.ErrOrder},
		{func(n *news.News) { n.Stands = [][]int{{0, 0}} }, api.ErrOrder},
		{func(n *news.News) { n.Links[0], n.Notices[1].After = [2]int{1, 2}, 7 }, api.ErrTwice},
		{func(n *news.News) { n.Notices, n.Stands[0] = after(-1, 0, 0), list(-1) }, api.ErrTwice},
	} {
		n := row()
		x.change(&n)
		if e := news.Check(n); e != x.e {
			t.Error(i, e)
		}
	}
}

func TestChains(t *testing.T) {
	n := row()
	n.Notices = after(-1, -1, 0, 2, 1, -1, 3)
	for notice, want := range [][]int{{0, 2, 3, 6}, {1, 4}, {0, 2, 3, 6}, {0, 2, 3, 6}, {1, 4}, {5}, {0, 2, 3, 6}} {
		if l, e := news.Chain(n, notice); !slices.Equal(l, want) || e != api.OK {
			t.Error(notice, l, e)
		}
	}
	for _, notice := range list(-1, 7, math.MinInt, math.MaxInt) {
		if l, e := news.Chain(n, notice); len(l) > 0 || e != api.ErrAbsent {
			t.Error(notice, l, e)
		}
	}
}

func TestForce(t *testing.T) {
	for i, x := range []struct {
		notices []news.Notice
		want    []int
	}{
		{after(-1), list(0)},
		{[]news.Notice{{After: -1, Back: true}}, nil},
		{after(-1, 0, 1), list(2)},
		{[]news.Notice{{After: -1, Back: true}, {After: 0}}, list(1)},
		{[]news.Notice{{After: -1}, {After: 0, Back: true}, {After: -1}}, list(2)},
		{[]news.Notice{{After: -1}, {After: -1}, {After: -1}, {After: 0}}, list(1, 2, 3)},
		{[]news.Notice{{After: -1}, {After: -1, Back: true}, {After: 0}, {After: 2, Back: true}, {After: 1}}, list(4)},
	} {
		n := row()
		n.Notices = x.notices
		if l, e := news.Force(n); !slices.Equal(l, x.want) || e != api.OK {
			t.Error(i, l, e)
		}
	}
}

func TestChainsAndForceOfManyNews(t *testing.T) {
	manyNews(t, 1000, largest, func(_ *rand.Rand, n news.News, _ []news.Cry) {
		if e := news.Check(n); e != api.OK {
			t.Error(e)
		}
		var force []int
		for _, chain := range chains(n) {
			if last := chain[len(chain)-1]; !n.Notices[last].Back {
				force = append(force, last)
			}
			for _, notice := range chain {
				if l, e := news.Chain(n, notice); !slices.Equal(l, chain) || e != api.OK {
					t.Error(notice, l, e, chain)
				}
			}
		}
		slices.Sort(force)
		if l, e := news.Force(n); !slices.Equal(l, force) || e != api.OK {
			t.Error(l, e, force)
		}
	})
}
