package news_test

import (
	"math/rand"
	"slices"
	"testing"

	"oyez/api"
	"oyez/news"
)

// P4.5

func TestMendsInTheExample(t *testing.T) {
	both := gaps(gap(2, 0), gap(3, 0))
	for i, x := range []struct {
		evenings int
		further  news.Cry
		want     []news.Gap
	}{
		{1, cry(1, 1), both},
		{1, cry(1, 0), nil},
		{1, cry(0, 0), nil},
		{1, cry(0, 1), nil},
		{0, cry(1, 1), gaps(gap(3, 0))},
		{3, cry(1, 1), nil},
	} {
		if l, e := news.Mends(row(), rowCries(), x.evenings, x.further); !slices.Equal(l, x.want) || e != api.OK {
			t.Error(i, l, e)
		}
	}
}

// A cry of a notice that is not the last one mends a gap with an earlier one, though it makes another gap; one of another chain mends none.
func TestACryInTheMiddleOfAChainMends(t *testing.T) {
	n := news.News{Houses: 3, Links: line(3), Notices: after(-1, 0, -1, 1, 2), Stands: [][]int{{0, 2}, {0, 1, 2}}}
	c := cries(cry(0, 0), cry(1, 0), cry(2, 0))
	for i, x := range []struct {
		evenings int
		further  news.Cry
		want     []news.Gap
	}{
		{0, cry(3, 1), gaps(gap(0, 1), gap(2, 1))},
		{0, cry(1, 1), nil},
		{0, cry(0, 1), nil},
		{0, cry(4, 1), gaps(gap(0, 2), gap(2, 2))},
		{1, cry(4, 1), gaps(gap(0, 2), gap(1, 2), gap(2, 2))},
		{1, cry(3, 0), gaps(gap(0, 1), gap(1, 1), gap(2, 1))},
	} {
		if l, e := news.Mends(n, c, x.evenings, x.further); !slices.Equal(l, x.want) || e != api.OK {
			t.Error(i, l, e)
		}
	}
	if l, e := news.Mends(n, cries(cry(0, 0)), 0, cry(1, 1)); !slices.Equal(l, gaps(gap(0, 0), gap(2, 0))) || e != api.OK {
		t.Error(l, e)
	}
}

func TestWithOneStandOfTheExample(t *testing.T) {
	both := gaps(gap(2, 0), gap(3, 0))
	for i, x := range []struct {
		evenings int
		stands   []int
		stuck    []news.Gap
		apart    []news.Gap
		fewest   []news.Cry
		e        api.Errno
	}{
		{0, list(1), nil, gaps(gap(3, 0)), cries(cry(1, 1)), api.OK},
		{1, list(0, 1), nil, gaps(gap(2, 0)), cries(cry(1, 1)), api.OK},
		{1, list(1), nil, gaps(gap(2, 0)), cries(cry(1, 1)), api.OK},
		{1, list(0), both, both, nil, api.ErrNone},
		{1, nil, both, both, nil, api.ErrNone},
		{3, list(0), nil, nil, nil, api.OK},
		{3, nil, nil, nil, nil, api.OK},
	} {
		stuck, e := news.Stuck(row(), rowCries(), x.evenings, x.stands)
		apart, f := news.Apart(row(), rowCries(), x.evenings, x.stands)
		further, g := news.Fewest(row(), rowCries(), x.evenings, x.stands)
		if !slices.Equal(stuck, x.stuck) || !slices.Equal(apart, x.apart) || !slices.Equal(further, x.fewest) || e != api.OK || f != api.OK || g != x.e {
			t.Error(i, stuck, apart, further, e, f, g)
		}
	}
}

// With the others there may be more further cries than cries can be.
func TestFewestBesideAsManyCriesAsCanBe(t *testing.T) {
	n, c := widest()
	var want []news.Cry
	var left, lone []news.Gap
	for stand := 1; stand <= 5; stand++ {
		for notice := 1; notice < 8; notice += 2 {
			want = append(want, cry(notice, stand))
		}
	}
	for house := range 10 {
		for notice := 0; notice < 8; notice += 2 {
			left = append(left, gap(house, notice))
			if house%2 == 0 {
				lone = append(lone, gap(house, notice))
			}
		}
	}
	further, e := news.Fewest(n, c, 0, list(3, 1, 5, 2, 4))
	slices.SortFunc(further, func(a, b news.Cry) int { return (a.Stand-b.Stand)*8 + a.Notice - b.Notice })
	if !slices.Equal(further, want) || e != api.OK {
		t.Error(further, e)
	}
	if l, e := news.Left(n, c, 0); !slices.Equal(l, left) || e != api.OK || len(c) != news.MaxCries {
		t.Error(l, e)
	}
	if l, e := news.Apart(n, c, 0, list(5, 4, 3, 2, 1)); !slices.Equal(l, lone) || e != api.OK {
		t.Error(l, e)
	}
	if l, e := news.Apart(n, c, 0, nil); !slices.Equal(l, left) || e != api.OK {
		t.Error(l, e)
	}
	further, e = news.Fewest(n, c, 0, list(3, 1, 0, 5, 2, 4))
	if len(further) != 4 || len(gapsAfter(n, slices.Concat(c, further), 0)) > 0 || e != api.OK {
		t.Error(further, e)
	}
	last := cry(7, 3)
	if l, e := news.Mends(n, c, 0, last); !slices.Equal(l, gaps(gap(4, 6), gap(5, 6))) || e != api.OK {
		t.Error(l, e)
	}
}

// The stand that mends most is not among the fewest ones here.
func TestFewestIsNotGreedy(t *testing.T) {
	n := news.News{Houses: 6, Notices: after(-1, 0), Stands: [][]int{{0, 1, 2, 3, 4, 5}, {1, 2, 3, 4}, {0, 1, 2}, {3, 4, 5}, {0, 5}}}
	c := cries(cry(0, 0))
	for i, x := range []struct {
		stands []int
		many   int
	}{{list(0, 1, 2, 3), 1}, {list(1, 2, 3), 2}, {list(3, 1, 2), 2}, {list(1, 4), 2}, {list(4, 2, 3), 2}} {
		further, e := news.Fewest(n, c, 0, x.stands)
		at := func(c news.Cry) bool { return c.Notice == 1 && slices.Contains(x.stands, c.Stand) }
		if len(further) != x.many || e != api.OK || len(gapsAfter(n, slices.Concat(c, further), 0)) > 0 || len(slices.DeleteFunc(slices.Clone(further), at)) > 0 {
			t.Error(i, further, e)
		}
	}
	if further, e := news.Fewest(n, c, 0, list(1, 2)); len(further) > 0 || e != api.ErrNone {
		t.Error(further, e)
	}
}

// The first gap that is apart from others is not among the most ones here.
func TestApartIsNotGreedy(t *testing.T) {
	n := news.News{Houses: 4, Notices: after(-1, 0), Stands: [][]int{{0, 1, 2, 3}, {0, 1}, {0, 2}, {0, 3}, {1, 2}, {2, 3}}}
	for i, x := range []struct {
		stands []int
		want   []news.Gap
	}{
		{list(1, 2, 3), gaps(gap(1, 0), gap(2, 0), gap(3, 0))},
		{list(1, 2), gaps(gap(1, 0), gap(2, 0), gap(3, 0))},
		{list(1), gaps(gap(0, 0), gap(2, 0), gap(3, 0))},
		{list(1, 4), gaps(gap(0, 0), gap(2, 0), gap(3, 0))},
		{list(4, 1, 5), gaps(gap(0, 0), gap(2, 0))},
		{list(4, 1, 5, 3), gaps(gap(0, 0), gap(2, 0))},
		{list(4, 1, 5, 3, 2), gaps(gap(1, 0), gap(3, 0))},
		{list(0, 1), gaps(gap(0, 0))},
	} {
		if l, e := news.Apart(n, cries(cry(0, 0)), 0, x.stands); !slices.Equal(l, x.want) || e != api.OK {
			t.Error(i, l, e)
		}
	}
}

// checkMended holds what is told of single cries against what is held with them.
func checkMended(t *testing.T, n news.News, c []news.Cry, evenings int, stands []int) {
	t.Helper()
	stuck := gapsAfter(n, c, evenings)
	var all []int
	for stand := range n.Stands {
		all = append(all, stand)
	}
	for _, further := range criesAt(n, all) {
		want := mended(n, c, evenings, further)
		if l, e := news.Mends(n, c, evenings, further); !slices.Equal(l, want) || e != api.OK {
			t.Error("Mends:", evenings, further, l, e, want)
		}
		if slices.Contains(stands, further.Stand) {
			stuck = slices.DeleteFunc(stuck, func(g news.Gap) bool { return slices.Contains(want, g) })
		}
	}
	if l, e := news.Stuck(n, c, evenings, stands); !slices.Equal(l, stuck) || e != api.OK {
		t.Error("Stuck:", evenings, stands, l, e, stuck)
	}
}

// checkFewest holds the further cries that are told against how many are needed, -1 if none are enough.
func checkFewest(t *testing.T, n news.News, c []news.Cry, evenings int, stands []int, many int) {
	t.Helper()
	further, e := news.Fewest(n, c, evenings, stands)
	if many < 0 {
		if len(further) > 0 || e != api.ErrNone {
			t.Error("Fewest:", evenings, stands, further, e)
		}
		return
	}
	if len(further) != many || e != api.OK {
		t.Error("Fewest:", evenings, stands, further, e, many)
	}
	for _, x := range further {
		if !slices.Contains(criesAt(n, stands), x) {
			t.Error("Fewest has another cry:", stands, further)
			return
		}
	}
	if l := gapsAfter(n, slices.Concat(c, further), evenings); len(l) > 0 {
		t.Error("Fewest leaves some:", evenings, further, l)
	}
}

func TestAgainstAllFurtherCries(t *testing.T) {
	var many [5]int
	leftNews(t, 3000, sizes{6, 5, 5, 6, 8}, func(r *rand.Rand, n news.News, c []news.Cry) {
		evenings, stands := r.Intn(3), someStands(r, n)
		if len(stands)*len(n.Notices) > 9 || len(gapsAfter(n, c, evenings)) < 2 {
			return
		}
		checkMended(t, n, c, evenings, stands)
		least := fewest(n, c, evenings, criesAt(n, stands))
		checkFewest(t, n, c, evenings, stands, least)
		many[max(0, min(least, 4))]++
	})
	if many[1] < 50 || many[2] < 20 || many[0] < 50 {
		t.Error("too few news of a kind:", many)
	}
}

// byChains returns how many cries of last notices leave none, trying for each chain by itself all sets of stands; -1 if they cannot.
func byChains(n news.News, c []news.Cry, evenings int, stands []int) int {
	sum := 0
	for _, chain := range chains(n) {
		last := chain[len(chain)-1]
		left := func(with []news.Cry) bool {
			of := func(g news.Gap) bool { return slices.Contains(chain, g.Notice) }
			return slices.ContainsFunc(gapsAfter(n, with, evenings), of)
		}
		least := -1
		for _, set := range sets(len(stands)) {
			with := slices.Clone(c)
			for _, stand := range chosen(stands, set) {
				with = append(with, cry(last, stand))
			}
			if !left(with) {
				least = len(elements(set))
				break
			}
		}
		if least < 0 {
			return -1
		}
		sum += least
	}
	return sum
}

func TestAgainstAllFurtherCriesOfEachChain(t *testing.T) {
	var many [6]int
	leftNews(t, 400, largest, func(r *rand.Rand, n news.News, c []news.Cry) {
		evenings, stands := r.Intn(3), someStands(r, n)
		checkMended(t, n, c, evenings, stands)
		least := byChains(n, c, evenings, stands)
		checkFewest(t, n, c, evenings, stands, least)
		many[1+max(-1, min(least, 4))]++
	})
	if slices.Min(many[:]) < 5 {
		t.Error("too few news of a kind:", many)
	}
}

func TestApartAgainstAllGaps(t *testing.T) {
	var many [4]int
	leftNews(t, 800, sizes{8, 8, 5, 6, 10}, func(r *rand.Rand, n news.News, c []news.Cry) {
		evenings, stands := r.Intn(3), someStands(r, n)
		left := gapsAfter(n, c, evenings)
		if len(left) > 10 {
			return
		}
		want := apart(n, c, evenings, left, stands)
		if l, e := news.Apart(n, c, evenings, stands); !slices.Equal(l, want) || e != api.OK {
			t.Error(evenings, stands, l, e, want)
		}
		if len(want) < len(left) {
			many[min(len(want), 3)]++
		}
	})
	if slices.Min(many[1:]) < 20 {
		t.Error("too few news of a kind:", many)
	}
}

func TestApartAgainstAllGapsOfEachChain(t *testing.T) {
	some := 0
	leftNews(t, 300, largest, func(r *rand.Rand, n news.News, c []news.Cry) {
		evenings, stands := r.Intn(4), someStands(r, n)
		left := gapsAfter(n, c, evenings)
		var want []news.Gap
		for _, chain := range chains(n) {
			of := func(g news.Gap) bool { return !slices.Contains(chain, g.Notice) }
			want = append(want, apart(n, c, evenings, slices.DeleteFunc(slices.Clone(left), of), stands)...)
		}
		slices.SortFunc(want, func(a, b news.Gap) int { return (a.House-b.House)*8 + a.Notice - b.Notice })
		if l, e := news.Apart(n, c, evenings, stands); !slices.Equal(l, want) || e != api.OK {
			t.Error(evenings, stands, l, e, want)
		}
		if len(left) > 10 && len(want) < len(left) {
			some++
		}
	})
	if some < 20 {
		t.Error("too few news with many gaps:", some)
	}
}

func TestTheOrderOfStandsDoesNotMatter(t *testing.T) {
	leftNews(t, 200, largest, func(r *rand.Rand, n news.News, c []news.Cry) {
		evenings, stands := r.Intn(3), someStands(r, n)
		other := slices.Clone(stands)
		slices.Sort(other)
		a, _ := news.Stuck(n, c, evenings, stands)
		b, _ := news.Stuck(n, c, evenings, other)
		f, _ := news.Apart(n, c, evenings, stands)
		g, _ := news.Apart(n, c, evenings, other)
		h, _ := news.Fewest(n, c, evenings, stands)
		k, _ := news.Fewest(n, c, evenings, other)
		if !slices.Equal(a, b) || !slices.Equal(f, g) || len(h) != len(k) {
			t.Error(evenings, stands, a, b, f, g, h, k)
		}
	})
}
