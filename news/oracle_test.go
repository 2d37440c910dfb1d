package news_test

import (
	"math/rand"
	"reflect"
	"slices"
	"testing"

	"oyez/api"
	"oyez/news"
)

// The tests call exported functions only, and hold their results against what this file finds out by telling all that is known, evening by evening, and by trying all paths and all further cries.

func list(n ...int) []int { return n }

func cry(notice, stand int) news.Cry { return news.Cry{Notice: notice, Stand: stand} }

func cries(c ...news.Cry) []news.Cry { return c }

func gap(house, notice int) news.Gap { return news.Gap{House: house, Notice: notice} }

func gaps(g ...news.Gap) []news.Gap { return g }

// after makes notices of what they follow; none of them takes back anything.
func after(n ...int) []news.Notice {
	var all []news.Notice
	for _, a := range n {
		all = append(all, news.Notice{After: a})
	}
	return all
}

// line links houses in a row.
func line(houses int) [][2]int {
	var links [][2]int
	for house := 1; house < houses; house++ {
		links = append(links, [2]int{house - 1, house})
	}
	return links
}

// row is the news of the examples.
func row() news.News {
	return news.News{Houses: 4, Links: line(4), Notices: []news.Notice{{After: news.None}, {After: 0, Back: true}}, Stands: [][]int{{0}, {0, 3}}}
}

func rowCries() []news.Cry { return cries(cry(0, 1), cry(1, 0)) }

// widest is news with as much of all as can be. In four chains of two, stand 0 is heard by all houses, and each other stand by two.
func widest() (news.News, []news.Cry) {
	n := news.News{Houses: 10, Notices: after(-1, 0, -1, 2, -1, 4, -1, 6), Stands: [][]int{{0, 1, 2, 3, 4, 5, 6, 7, 8, 9}, {0, 1}, {2, 3}, {4, 5}, {6, 7}, {8, 9}}}
	var c []news.Cry
	for notice := 0; notice < 8; notice += 2 {
		c = append(c, slices.Repeat(cries(cry(notice, 0)), 4)...)
	}
	n.Links = append(line(10), [2]int{9, 0}, [2]int{0, 5}, [2]int{6, 1}, [2]int{2, 7}, [2]int{8, 3}, [2]int{4, 9})
	return n, c
}

// clone returns news that share no memory with others.
func clone(n news.News) news.News {
	n.Links, n.Notices, n.Stands = slices.Clone(n.Links), slices.Clone(n.Notices), slices.Clone(n.Stands)
	for i := range n.Stands {
		n.Stands[i] = slices.Clone(n.Stands[i])
	}
	return n
}

// follower returns the notice that follows another one, or None.
func follower(n news.News, notice int) int {
	return slices.IndexFunc(n.Notices, func(x news.Notice) bool { return x.After == notice })
}

// chains returns all chains.
func chains(n news.News) [][]int {
	var all [][]int
	for notice, x := range n.Notices {
		if x.After != news.None {
			continue
		}
		chain := list(notice)
		for next := follower(n, notice); next != news.None; next = follower(n, next) {
			chain = append(chain, next)
		}
		all = append(all, chain)
	}
	return all
}

// linked reports whether two houses are neighbours.
func linked(n news.News, a, b int) bool {
	return slices.Contains(n.Links, [2]int{a, b}) || slices.Contains(n.Links, [2]int{b, a})
}

// heard returns the notices that a house hears.
func heard(n news.News, c []news.Cry, house int) []int {
	var all []int
	for notice := range n.Notices {
		for stand, houses := range n.Stands {
			if slices.Contains(c, cry(notice, stand)) && slices.Contains(houses, house) && !slices.Contains(all, notice) {
				all = append(all, notice)
			}
		}
	}
	return all
}

// held returns the last notices of some chains among those that are known, in increasing order.
func held(chains [][]int, known []int) []int {
	var all []int
	for _, chain := range chains {
		last := news.None
		for _, notice := range chain {
			if slices.Contains(known, notice) {
				last = notice
			}
		}
		if last != news.None {
			all = append(all, last)
		}
	}
	slices.Sort(all)
	return all
}

// course returns for each number of evenings what each house holds.
func course(n news.News, c []news.Cry) [][][]int { return courseTo(n, c, news.MaxEvenings) }

// courseTo returns it for so many evenings, and for fewer ones.
func courseTo(n news.News, c []news.Cry, last int) [][][]int {
	var evenings [][][]int
	all, known := chains(n), make([][]int, n.Houses)
	for house := range known {
		known[house] = heard(n, c, house)
	}
	for range last + 1 {
		now := make([][]int, n.Houses)
		for house := range now {
			now[house] = held(all, known[house])
		}
		evenings = append(evenings, now)
		for house := range known {
			for other := range now {
				if linked(n, house, other) {
					known[house] = slices.Concat(known[house], now[other])
				}
			}
		}
	}
	return evenings
}

// gapsIn returns the gaps in what each house holds.
func gapsIn(n news.News, now [][]int) []news.Gap {
	var all []news.Gap
	for house, notices := range now {
		for _, notice := range notices {
			if follower(n, notice) != news.None {
				all = append(all, gap(house, notice))
			}
		}
	}
	return all
}

func gapsAfter(n news.News, c []news.Cry, evenings int) []news.Gap {
	return gapsIn(n, courseTo(n, c, evenings)[evenings])
}

// mended returns the gaps that further cries mend.
func mended(n news.News, c []news.Cry, evenings int, further ...news.Cry) []news.Gap {
	now := courseTo(n, slices.Concat(c, further), evenings)[evenings]
	var all []news.Gap
	for _, g := range gapsAfter(n, c, evenings) {
		if !slices.Contains(now[g.House], g.Notice) {
			all = append(all, g)
		}
	}
	return all
}

// criesAt returns the cries of all notices at some stands.
func criesAt(n news.News, stands []int) []news.Cry {
	var all []news.Cry
	for notice := range n.Notices {
		for _, stand := range stands {
			all = append(all, cry(notice, stand))
		}
	}
	return all
}

// isPath reports whether houses are a path for a notice, by what all houses hold.
func isPath(n news.News, c []news.Cry, path []int, notice int) bool {
	evenings := course(n, c)
	if len(path) == 0 || len(path) > len(evenings) {
		return false
	}
	for i, house := range path {
		if house < 0 || house >= n.Houses || i > 0 && !linked(n, path[i-1], house) || !slices.Contains(evenings[i][house], notice) {
			return false
		}
	}
	return true
}

// shortest returns how many houses the shortest path for a notice to each house has, 0 if there is none, by going on from the ends of all paths.
func shortest(n news.News, c []news.Cry, notice int) []int {
	found := make([]int, n.Houses)
	var ends []int
	for i, now := range course(n, c) {
		var next []int
		for house := range n.Houses {
			from := i == 0 || slices.ContainsFunc(ends, func(end int) bool { return linked(n, end, house) })
			if from && slices.Contains(now[house], notice) {
				next = append(next, house)
				if found[house] == 0 {
					found[house] = i + 1
				}
			}
		}
		ends = next
	}
	return found
}

// links returns how many links away each house is from each other one, or more than any is.
func links(n news.News) [][]int {
	far := n.Houses
	all := make([][]int, n.Houses)
	for from := range all {
		all[from] = slices.Repeat(list(far), n.Houses)
		all[from][from] = 0
		for range n.Houses {
			for a := range n.Houses {
				for b := range n.Houses {
					if linked(n, a, b) {
						all[from][b] = min(all[from][b], all[from][a]+1)
					}
				}
			}
		}
	}
	return all
}

// elements returns those of a set, in increasing order.
func elements(set int) []int {
	var all []int
	for n := 0; set>>n > 0; n++ {
		if set>>n&1 == 1 {
			all = append(all, n)
		}
	}
	return all
}

// sets returns all sets of n things, the smaller ones first, those of a size in lexicographic order of their lists.
func sets(n int) []int {
	var all []int
	var extend func(set, next, many int)
	extend = func(set, next, many int) {
		if many == 0 {
			all = append(all, set)
			return
		}
		for i := next; i < n; i++ {
			extend(set|1<<i, i+1, many-1)
		}
	}
	for many := range n + 1 {
		extend(0, 0, many)
	}
	return all
}

// chosen returns the elements of a list that a set has.
func chosen[T any](all []T, set int) []T {
	var some []T
	for _, i := range elements(set) {
		some = append(some, all[i])
	}
	return some
}

// fewest returns how many of some further cries leave none, by trying all of them; -1 if they cannot.
func fewest(n news.News, c []news.Cry, evenings int, further []news.Cry) int {
	for _, set := range sets(len(further)) {
		if len(gapsAfter(n, slices.Concat(c, chosen(further, set)), evenings)) == 0 {
			return len(elements(set))
		}
	}
	return -1
}

// together returns for each of some gaps the set of those that share a cry with it.
func together(n news.News, c []news.Cry, evenings int, some []news.Gap, stands []int) []int {
	with := make([]int, len(some))
	for _, further := range criesAt(n, stands) {
		all := mended(n, c, evenings, further)
		set := 0
		for i, g := range some {
			if slices.Contains(all, g) {
				set |= 1 << i
			}
		}
		for _, i := range elements(set) {
			with[i] |= set
		}
	}
	return with
}

// apart returns as many of some gaps as can be, no two of which the same cry mends, by trying all sets of them.
func apart(n news.News, c []news.Cry, evenings int, some []news.Gap, stands []int) []news.Gap {
	with := together(n, c, evenings, some, stands)
	best := 0
	for _, set := range sets(len(some)) {
		clash := func(i int) bool { return with[i]&set&^(1<<i) != 0 }
		if len(elements(set)) > len(elements(best)) && !slices.ContainsFunc(elements(set), clash) {
			best = set
		}
	}
	return chosen(some, best)
}

// sizes is how much news have at most.
type sizes struct{ houses, links, notices, stands, cries int }

var largest = sizes{news.MaxHouses, news.MaxLinks, news.MaxNotices, news.MaxStands, news.MaxCries}

// up returns a number from 1 to n, a greater one more often.
func up(r *rand.Rand, n int) int { return 1 + max(r.Intn(n), r.Intn(n)) }

// someNews returns news and cries. The last notices of chains are cried less often, so that houses are left.
func someNews(r *rand.Rand, most sizes) (news.News, []news.Cry) {
	n := news.News{Houses: up(r, most.houses)}
	for range r.Intn(most.links + 1) {
		a, b := r.Intn(n.Houses), r.Intn(n.Houses)
		if a != b && !linked(n, a, b) {
			n.Links = append(n.Links, [2]int{a, b})
		}
	}
	for notice := range up(r, most.notices) {
		x := news.Notice{After: news.None, Back: r.Intn(2) == 0}
		if a := r.Intn(notice + 1); a < notice && r.Intn(4) > 0 && follower(n, a) == news.None {
			x.After = a
		}
		n.Notices = append(n.Notices, x)
	}
	for range up(r, most.stands) {
		houses := r.Perm(n.Houses)[:r.Intn(min(n.Houses, 3)+1)]
		slices.Sort(houses)
		n.Stands = append(n.Stands, houses)
	}
	var c []news.Cry
	for range r.Intn(most.cries + 1) {
		x := cry(r.Intn(len(n.Notices)), r.Intn(len(n.Stands)))
		if follower(n, x.Notice) != news.None || r.Intn(2) == 0 {
			c = append(c, x)
		}
	}
	return n, c
}

// someStands returns some of the stands of news, in any order.
func someStands(r *rand.Rand, n news.News) []int {
	return r.Perm(len(n.Stands))[:up(r, len(n.Stands)+1)-1]
}

// crowdedNews returns news and cries by which many houses are left: most of them hear stand 0, at which no last notice of a chain is cried.
func crowdedNews(r *rand.Rand, most sizes) (news.News, []news.Cry) {
	n, c := someNews(r, most)
	n.Links = n.Links[:min(len(n.Links), r.Intn(4))]
	all := r.Perm(n.Houses)
	n.Stands[0] = slices.Sorted(slices.Values(all[:n.Houses-r.Intn(2)*r.Intn(n.Houses)]))
	for stand := 1; stand < len(n.Stands); stand++ {
		n.Stands[stand] = slices.Sorted(slices.Values(r.Perm(n.Houses)[:1+r.Intn(min(n.Houses, 4))]))
	}
	c = c[:min(len(c), r.Intn(2))]
	for notice := range n.Notices {
		if follower(n, notice) != news.None && len(c) < most.cries {
			c = append(c, cry(notice, 0))
		}
	}
	return n, c
}

// manyNews calls a function with news and cries, always the same ones.
func manyNews(t *testing.T, many int, most sizes, check func(r *rand.Rand, n news.News, c []news.Cry)) {
	t.Helper()
	tryNews(t, many, most, someNews, check)
}

// leftNews is manyNews, and half of them are crowded.
func leftNews(t *testing.T, many int, most sizes, check func(r *rand.Rand, n news.News, c []news.Cry)) {
	t.Helper()
	tryNews(t, many/2, most, someNews, check)
	tryNews(t, many/2, most, crowdedNews, check)
}

func tryNews(t *testing.T, many int, most sizes, some func(*rand.Rand, sizes) (news.News, []news.Cry), check func(r *rand.Rand, n news.News, c []news.Cry)) {
	t.Helper()
	r := rand.New(rand.NewSource(4))
	for range many {
		n, c := some(r, most)
		check(r, n, c)
		if t.Failed() {
			t.Fatalf("in the news %+v, with the cries %v", n, c)
		}
	}
}

// args are what a call is given; each call takes what it needs of them.
type args struct {
	n                       news.News
	cries                   []news.Cry
	notice, house, evenings int
	path                    []int
	cry                     news.Cry
	stands                  []int
}

// good returns arguments with which each call is right.
func good() args {
	return args{row(), rowCries(), 0, 2, 1, list(3, 2), cry(1, 1), list(1, 0)}
}

func (x args) clone() args {
	x.n, x.cries, x.path, x.stands = clone(x.n), slices.Clone(x.cries), slices.Clone(x.path), slices.Clone(x.stands)
	return x
}

// call is one of the functions, with its result beside the error.
type call struct {
	name string
	do   func(args) (any, api.Errno)
}

func one[T any](v T, e api.Errno) (any, api.Errno) { return v, e }

func calls() []call {
	return []call{
		{"Check", func(x args) (any, api.Errno) { return 0, news.Check(x.n) }},
		{"Chain", func(x args) (any, api.Errno) { return one(news.Chain(x.n, x.notice)) }},
		{"Force", func(x args) (any, api.Errno) { return one(news.Force(x.n)) }},
		{"Heard", func(x args) (any, api.Errno) { return one(news.Heard(x.n, x.cries, x.house)) }},
		{"Holds", func(x args) (any, api.Errno) { return one(news.Holds(x.n, x.cries, x.evenings, x.house)) }},
		{"Path", func(x args) (any, api.Errno) { return one(news.Path(x.n, x.cries, x.house, x.notice)) }},
		{"Passes", func(x args) (any, api.Errno) { return one(news.Passes(x.n, x.cries, x.path, x.notice)) }},
		{"Left", func(x args) (any, api.Errno) { return one(news.Left(x.n, x.cries, x.evenings)) }},
		{"Misled", func(x args) (any, api.Errno) { return one(news.Misled(x.n, x.cries, x.evenings)) }},
		{"Settles", func(x args) (any, api.Errno) { return one(news.Settles(x.n, x.cries)) }},
		{"Clear", func(x args) (any, api.Errno) { return one(news.Clear(x.n, x.cries)) }},
		{"Mends", func(x args) (any, api.Errno) { return one(news.Mends(x.n, x.cries, x.evenings, x.cry)) }},
		{"Stuck", func(x args) (any, api.Errno) { return one(news.Stuck(x.n, x.cries, x.evenings, x.stands)) }},
		{"Fewest", func(x args) (any, api.Errno) { return one(news.Fewest(x.n, x.cries, x.evenings, x.stands)) }},
		{"Apart", func(x args) (any, api.Errno) { return one(news.Apart(x.n, x.cries, x.evenings, x.stands)) }},
		{"Spare", func(x args) (any, api.Errno) { return one(news.Spare(x.n, x.cries, x.evenings)) }},
	}
}

// zero reports whether a result is; a list without elements is zero, too.
func zero(result any) bool {
	v := reflect.ValueOf(result)
	return v.IsZero() || v.Kind() == reflect.Slice && v.Len() == 0
}
