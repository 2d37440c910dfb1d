package news_test

import (
	"math/rand"
	"slices"
	"testing"

	"oyez/api"
	"oyez/news"
)

// P4.7 and P0.5

// allStands returns the numbers of all stands.
func allStands(n news.News) []int {
	var all []int
	for stand := range n.Stands {
		all = append(all, stand)
	}
	return all
}

func TestAHouseIsLeftJustIfItIsTold(t *testing.T) {
	manyNews(t, 400, largest, func(r *rand.Rand, n news.News, c []news.Cry) {
		evenings := r.Intn(news.MaxEvenings + 1)
		left, e := news.Left(n, c, evenings)
		if e != api.OK {
			t.Error(e)
		}
		for house := range n.Houses {
			holds, _ := news.Holds(n, c, evenings, house)
			for notice := range n.Notices {
				chain, _ := news.Chain(n, notice)
				is := slices.Contains(holds, notice) && notice != chain[len(chain)-1]
				if slices.Contains(left, gap(house, notice)) != is {
					t.Error(evenings, house, notice, left, holds)
				}
			}
		}
	})
}

func TestWhoHoldsANoticeHasItByAPath(t *testing.T) {
	manyNews(t, 150, largest, func(_ *rand.Rand, n news.News, c []news.Cry) {
		for house := range n.Houses {
			for notice := range n.Notices {
				first := news.None
				for evenings := news.MaxEvenings; evenings >= 0; evenings-- {
					if holds, _ := news.Holds(n, c, evenings, house); slices.Contains(holds, notice) {
						first = evenings
					}
				}
				path, e := news.Path(n, c, house, notice)
				if (e == api.OK) != (first != news.None) || len(path) != first+1 {
					t.Error(house, notice, path, e, first)
				}
				if is, f := news.Passes(n, c, path, notice); is != (e == api.OK) || f != api.OK {
					t.Error(house, notice, path, is, f)
				}
			}
		}
	})
}

func TestFurtherCriesOrGapsThatNoCryMends(t *testing.T) {
	var many [2]int
	leftNews(t, 1000, sizes{10, 15, 8, 6, 10}, func(r *rand.Rand, n news.News, c []news.Cry) {
		evenings, stands := r.Intn(3), someStands(r, n)
		further, e := news.Fewest(n, c, evenings, stands)
		stuck, f := news.Stuck(n, c, evenings, stands)
		if (e == api.OK) != (len(stuck) == 0) || f != api.OK {
			t.Error(evenings, stands, further, stuck, e, f)
		}
		for _, g := range stuck {
			for _, x := range criesAt(n, stands) {
				if l, e := news.Mends(n, c, evenings, x); slices.Contains(l, g) || e != api.OK {
					t.Error(evenings, x, g, l)
				}
			}
		}
		if with := slices.Concat(c, further); e == api.OK && len(with) <= news.MaxCries {
			if l, e := news.Left(n, with, evenings); len(l) > 0 || e != api.OK {
				t.Error(evenings, further, l, e)
			}
		}
		apart, _ := news.Apart(n, c, evenings, stands)
		if e == api.OK && len(apart) > len(further) {
			t.Error(evenings, apart, further)
		}
		if e != api.OK {
			many[0]++
		} else if len(further) > 0 {
			many[1]++
		}
	})
	if slices.Min(many[:]) < 100 {
		t.Error("too few news of a kind:", many)
	}
}

// place returns for each notice its place in its chain.
func place(n news.News) []int {
	places := make([]int, len(n.Notices))
	for _, chain := range chains(n) {
		for i, notice := range chain {
			places[notice] = i
		}
	}
	return places
}

func TestNoHouseGoesBack(t *testing.T) {
	manyNews(t, 300, largest, func(_ *rand.Rand, n news.News, c []news.Cry) {
		places := place(n)
		for house := range n.Houses {
			before, _ := news.Holds(n, c, 0, house)
			for evenings := 1; evenings <= news.MaxEvenings; evenings++ {
				now, _ := news.Holds(n, c, evenings, house)
				for _, notice := range before {
					chain, _ := news.Chain(n, notice)
					later := func(x int) bool { return slices.Contains(chain, x) && places[x] >= places[notice] }
					if !slices.ContainsFunc(now, later) {
						t.Error(evenings, house, before, now)
					}
				}
				before = now
			}
		}
	})
}

func TestAfterFewerEveningsThanHousesNothingChanges(t *testing.T) {
	manyNews(t, 500, largest, func(_ *rand.Rand, n news.News, c []news.Cry) {
		settles, e := news.Settles(n, c)
		if settles >= n.Houses || e != api.OK {
			t.Error(settles, e)
		}
		if from, e := news.Clear(n, c); e == api.OK && from > settles {
			t.Error(from, settles)
		}
		for house := range n.Houses {
			last, _ := news.Holds(n, c, news.MaxEvenings, house)
			if l, e := news.Holds(n, c, settles, house); !slices.Equal(l, last) || e != api.OK {
				t.Error(settles, house, l, last, e)
			}
		}
	})
}

func TestAFurtherCryOfALastNotice(t *testing.T) {
	manyNews(t, 300, sizes{10, 15, 8, 6, 15}, func(r *rand.Rand, n news.News, c []news.Cry) {
		for _, chain := range chains(n) {
			for stand := range n.Stands {
				x, evenings := cry(chain[len(chain)-1], stand), r.Intn(4)
				before, _ := news.Left(n, c, evenings)
				after, e := news.Left(n, slices.Concat(c, cries(x)), evenings)
				mends, f := news.Mends(n, c, evenings, x)
				both := slices.Concat(after, mends)
				slices.SortFunc(both, func(a, b news.Gap) int { return (a.House-b.House)*8 + a.Notice - b.Notice })
				if !slices.Equal(both, before) || e != api.OK || f != api.OK {
					t.Error(x, evenings, before, after, mends)
				}
			}
		}
	})
}

func TestAGapIsStuckIfNoStandIsNear(t *testing.T) {
	some := 0
	leftNews(t, 500, largest, func(r *rand.Rand, n news.News, c []news.Cry) {
		evenings, stands, away := r.Intn(4), someStands(r, n), links(n)
		stuck, e := news.Stuck(n, c, evenings, stands)
		for _, g := range gapsAfter(n, c, evenings) {
			near := func(house int) bool { return away[house][g.House] <= evenings }
			heard := func(stand int) bool { return slices.ContainsFunc(n.Stands[stand], near) }
			if slices.Contains(stuck, g) == slices.ContainsFunc(stands, heard) || e != api.OK {
				t.Error(evenings, stands, g, stuck)
			}
		}
		if l, e := news.Stuck(n, c, evenings, allStands(n)); len(l) > 0 || e != api.OK {
			t.Error(evenings, l, e)
		}
		if _, e := news.Fewest(n, c, evenings, allStands(n)); e != api.OK {
			t.Error(evenings, e)
		}
		some += len(stuck)
	})
	if some < 100 {
		t.Error("too few gaps that are stuck:", some)
	}
}

func TestNobodyIsLeftInTheEndIfAllAreLinked(t *testing.T) {
	later := 0
	manyNews(t, 500, largest, func(r *rand.Rand, n news.News, c []news.Cry) {
		n.Links = nil
		for house := 1; house < n.Houses; house++ {
			n.Links = append(n.Links, [2]int{house, r.Intn(house)})
		}
		n.Stands[0] = list(r.Intn(n.Houses))
		c = c[:min(len(c), 8)]
		for _, chain := range chains(n) {
			said := func(x news.Cry) bool { return slices.Contains(chain, x.Notice) }
			if slices.ContainsFunc(c, said) {
				c = append(c, cry(chain[len(chain)-1], 0))
			}
		}
		from, e := news.Clear(n, c)
		if l, f := news.Left(n, c, news.MaxEvenings); len(l) > 0 || e != api.OK || f != api.OK {
			t.Error(c, from, l, e, f)
		}
		if from > 0 {
			later++
		}
	})
	if later < 50 {
		t.Error("too few news by which somebody is left for a while:", later)
	}
}
