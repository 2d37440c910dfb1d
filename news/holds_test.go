package news_test

import (
	"math"
	"math/rand"
	"slices"
	"testing"

	"oyez/api"
	"oyez/news"
)

// P4.2 and P4.3

func TestHeard(t *testing.T) {
	n := row()
	n.Notices = after(-1, -1, 0)
	for i, x := range []struct {
		cries []news.Cry
		house int
		want  []int
	}{
		{nil, 0, nil},
		{cries(cry(2, 0), cry(1, 1), cry(0, 0)), 0, list(0, 1, 2)},
		{cries(cry(2, 0), cry(1, 1), cry(0, 0)), 3, list(1)},
		{cries(cry(2, 0), cry(1, 1), cry(0, 0)), 1, nil},
		{cries(cry(1, 1), cry(1, 0), cry(1, 1)), 0, list(1)},
		{slices.Repeat(cries(cry(1, 1), cry(0, 1)), 8), 3, list(0, 1)},
	} {
		if l, e := news.Heard(n, x.cries, x.house); !slices.Equal(l, x.want) || e != api.OK {
			t.Error(i, l, e)
		}
	}
}

func TestHoldsInTheExample(t *testing.T) {
	for evenings, want := range [][][]int{
		{{1}, nil, nil, {0}},
		{{1}, {1}, {0}, {0}},
		{{1}, {1}, {1}, {0}},
		{{1}, {1}, {1}, {1}},
	} {
		for house, notices := range want {
			if l, e := news.Holds(row(), rowCries(), evenings, house); !slices.Equal(l, notices) || e != api.OK {
				t.Error(evenings, house, l, e)
			}
		}
	}
}

// A house tells what it held when the evening began, and not what it is told on that evening.
func TestANoticeGoesByOneHouseAnEvening(t *testing.T) {
	n := row()
	n.Houses, n.Links = 10, line(10)
	for _, from := range list(0, 9, 4) {
		n.Stands = [][]int{{from}}
		for evenings := range news.MaxEvenings + 1 {
			for house := range 10 {
				l, e := news.Holds(n, cries(cry(0, 0)), evenings, house)
				if reached := max(house-from, from-house) <= evenings; slices.Equal(l, list(0)) != reached || e != api.OK {
					t.Error(from, evenings, house, l, e)
				}
			}
		}
	}
}

// What a house knows beside what it holds is not told, and a chain does not hold up another one.
func TestOnlyTheLastOneOfEachChainIsHeld(t *testing.T) {
	n := news.News{Houses: 2, Links: line(2), Notices: after(-1, -1, 0, 1, 2), Stands: [][]int{{0}, {1}}}
	c := cries(cry(2, 0), cry(0, 0), cry(1, 0), cry(3, 1), cry(0, 1))
	for i, x := range []struct {
		evenings, house int
		want            []int
	}{{0, 0, list(1, 2)}, {0, 1, list(0, 3)}, {1, 0, list(2, 3)}, {1, 1, list(2, 3)}, {12, 1, list(2, 3)}} {
		if l, e := news.Holds(n, c, x.evenings, x.house); !slices.Equal(l, x.want) || e != api.OK {
			t.Error(i, l, e)
		}
	}
}

func TestHoldsAgainstAllThatIsKnown(t *testing.T) {
	changes := 0
	manyNews(t, 600, largest, func(_ *rand.Rand, n news.News, c []news.Cry) {
		all := course(n, c)
		for house := range n.Houses {
			if l, e := news.Heard(n, c, house); !slices.Equal(l, heard(n, c, house)) || e != api.OK {
				t.Error(house, l, e)
			}
			for evenings := range all {
				if l, e := news.Holds(n, c, evenings, house); !slices.Equal(l, all[evenings][house]) || e != api.OK {
					t.Error(evenings, house, l, e, all[evenings][house])
				}
			}
			if before, last := all[0][house], all[news.MaxEvenings][house]; len(before) > 0 && !slices.Equal(before, last) {
				changes++
			}
		}
	})
	if changes < 100 {
		t.Error("too few houses that are told something else:", changes)
	}
}

func TestTheOrderOfCriesDoesNotMatter(t *testing.T) {
	manyNews(t, 200, largest, func(r *rand.Rand, n news.News, c []news.Cry) {
		other := slices.Clone(c)
		r.Shuffle(len(other), func(i, k int) { other[i], other[k] = other[k], other[i] })
		for house := range n.Houses {
			evenings := r.Intn(4)
			a, _ := news.Holds(n, c, evenings, house)
			if b, e := news.Holds(n, other, evenings, house); !slices.Equal(a, b) || e != api.OK {
				t.Error(other, evenings, house, a, b, e)
			}
		}
	})
}

func TestPathInTheExample(t *testing.T) {
	for house, want := range [][]int{nil, nil, {3, 2}, {3}} {
		e := api.OK
		if want == nil {
			e = api.ErrNone
		}
		if l, f := news.Path(row(), rowCries(), house, 0); !slices.Equal(l, want) || f != e {
			t.Error(house, l, f)
		}
	}
	for house, want := range [][]int{{0}, {0, 1}, {0, 1, 2}, {0, 1, 2, 3}} {
		if l, e := news.Path(row(), rowCries(), house, 1); !slices.Equal(l, want) || e != api.OK {
			t.Error(house, l, e)
		}
	}
}

func TestPathsAgainstAllPaths(t *testing.T) {
	long, none := 0, 0
	manyNews(t, 400, largest, func(_ *rand.Rand, n news.News, c []news.Cry) {
		for notice := range n.Notices {
			for house, many := range shortest(n, c, notice) {
				path, e := news.Path(n, c, house, notice)
				if many == 0 {
					none++
					if len(path) > 0 || e != api.ErrNone {
						t.Error(house, notice, path, e)
					}
					continue
				}
				if e != api.OK || len(path) != many || path[many-1] != house || !isPath(n, c, path, notice) {
					t.Error(house, notice, path, e, many)
				}
				if many > 3 {
					long++
				}
			}
		}
	})
	if long < 100 || none < 100 {
		t.Error("too few paths of a kind:", long, none)
	}
}

// A house that held an earlier notice no more when it could have passed it on is on no path, and a path may come back to a house.
func TestPasses(t *testing.T) {
	round := slices.Repeat(list(0, 1), 7)
	for i, x := range []struct {
		path   []int
		notice int
		is     bool
	}{
		{list(3, 2), 0, true},
		{list(3, 2, 3), 0, true},
		{list(3, 2, 3, 2), 0, false},
		{list(2), 0, false},
		{list(2, 3), 0, false},
		{list(0), 0, false},
		{list(0), 1, true},
		{list(0, 1, 2, 3), 1, true},
		{list(0, 1, 0), 1, true},
		{list(0, 0), 1, false},
		{list(0, 2), 1, false},
		{list(0, 1, 3), 1, false},
		{list(1, 0), 1, false},
		{round[:13], 1, true},
		{round, 1, false},
		{nil, 1, false},
		{list(-1), 1, false},
		{list(4), 1, false},
		{list(0, 4), 1, false},
		{list(0, -1), 1, false},
		{list(0, math.MaxInt), 1, false},
		{list(math.MinInt, 0), 1, false},
	} {
		if is, e := news.Passes(row(), rowCries(), x.path, x.notice); is != x.is || e != api.OK {
			t.Error(i, is, e)
		}
	}
}

// somePath returns a walk that begins at some house, with a false step now and then.
func somePath(r *rand.Rand, n news.News) []int {
	path := list(r.Intn(n.Houses))
	for range r.Intn(5) {
		next := r.Intn(n.Houses)
		for range 8 {
			if !linked(n, path[len(path)-1], next) {
				next = r.Intn(n.Houses)
			}
		}
		path = append(path, next)
	}
	return path
}

func TestPassesAgainstWhatIsHeld(t *testing.T) {
	var many [2]int
	manyNews(t, 300, sizes{6, 12, 5, 6, 8}, func(r *rand.Rand, n news.News, c []news.Cry) {
		for range 20 {
			path, notice := somePath(r, n), r.Intn(len(n.Notices))
			is, e := news.Passes(n, c, path, notice)
			if is != isPath(n, c, path, notice) || e != api.OK {
				t.Error(path, notice, is, e)
			}
			if is && len(path) > 1 {
				many[0]++
			} else {
				many[1]++
			}
		}
	})
	if many[0] < 100 || many[1] < 100 {
		t.Error("too few lists of a kind:", many)
	}
}
