package news

import (
	"slices"

	"oyez/api"
)

// link is two houses that are neighbours, the one with the smaller number first.
type link [2]int

func linkOf(a, b int) link { return link{min(a, b), max(a, b)} }

// work is news at work: which houses are linked, the chains, and what all houses hold from evening to evening.
type work struct {
	News
	linked map[link]bool
	chains [][]int
	course course
}

// open returns news at work, or the error of the news.
func open(n News) (work, api.Errno) {
	if e := Check(n); e != api.OK {
		return work{}, e
	}
	w := work{News: n, linked: map[link]bool{}, chains: chainsOf(n.Notices)}
	for _, l := range n.Links {
		w.linked[linkOf(l[0], l[1])] = true
	}
	return w, api.OK
}

// openCries is open, with the errors of cries, and the course of the news.
func openCries(n News, cries []Cry) (work, api.Errno) {
	w, e := open(n)
	if e != api.OK {
		return work{}, e
	}
	if len(cries) > MaxCries {
		return work{}, api.ErrCount
	}
	if !all(cries, w.isCry) {
		return work{}, api.ErrAbsent
	}
	w.course = w.courseOf(cries)
	return w, api.OK
}

// openEvenings is openCries, with the error of evenings.
func openEvenings(n News, cries []Cry, evenings int) (work, api.Errno) {
	w, e := openCries(n, cries)
	if e != api.OK {
		return work{}, e
	}
	if !between(evenings, 0, MaxEvenings) {
		return work{}, api.ErrRange
	}
	return w, api.OK
}

// openLeft is openEvenings, with the errors of stands, and what is left to be mended there.
func openLeft(n News, cries []Cry, evenings int, stands []int) (left, api.Errno) {
	w, e := openEvenings(n, cries, evenings)
	if e != api.OK {
		return left{}, e
	}
	if !all(stands, w.isStand) {
		return left{}, api.ErrAbsent
	}
	if twice(stands) {
		return left{}, api.ErrTwice
	}
	return w.left(cries, evenings, stands), api.OK
}

// all reports whether something is so for each element of a list.
func all[T any](list []T, is func(T) bool) bool {
	for _, x := range list {
		if !is(x) {
			return false
		}
	}
	return true
}

// twice reports whether a list has an element twice.
func twice[T comparable](list []T) bool {
	for i, x := range list {
		if slices.Contains(list[:i], x) {
			return true
		}
	}
	return false
}

// those returns the elements of a list for which something is so.
func those[T any](list []T, is func(T) bool) []T {
	var some []T
	for _, x := range list {
		if is(x) {
			some = append(some, x)
		}
	}
	return some
}

func (w work) isHouse(house int) bool   { return between(house, 0, w.Houses-1) }
func (w work) isNotice(notice int) bool { return between(notice, 0, len(w.Notices)-1) }
func (w work) isStand(stand int) bool   { return between(stand, 0, len(w.Stands)-1) }
func (w work) isCry(c Cry) bool         { return w.isNotice(c.Notice) && w.isStand(c.Stand) }

// wrongCounts reports whether there are too many things of a kind, or too few.
func (w work) wrongCounts() bool {
	return !between(w.Houses, 1, MaxHouses) || len(w.Links) > MaxLinks ||
		!between(len(w.Notices), 1, MaxNotices) || !between(len(w.Stands), 1, MaxStands)
}

func (w work) linksError() api.Errno {
	var links []link
	for _, l := range w.Links {
		links = append(links, linkOf(l[0], l[1]))
	}
	if !all(links, func(l link) bool { return all(l[:], w.isHouse) }) {
		return api.ErrAbsent
	}
	if !all(links, func(l link) bool { return l[0] != l[1] }) {
		return api.ErrFalse
	}
	if twice(links) {
		return api.ErrTwice
	}
	return api.OK
}

func (w work) noticesError() api.Errno {
	var followed []int
	for notice, n := range w.Notices {
		if n.After == None {
			continue
		}
		if !between(n.After, 0, notice-1) {
			return api.ErrAbsent
		}
		followed = append(followed, n.After)
	}
	if twice(followed) {
		return api.ErrTwice
	}
	return api.OK
}

func (w work) standsError() api.Errno {
	if !all(w.Stands, func(houses []int) bool { return all(houses, w.isHouse) }) {
		return api.ErrAbsent
	}
	if !all(w.Stands, increases) {
		return api.ErrOrder
	}
	return api.OK
}

// increases reports whether numbers are in strictly increasing order.
func increases(numbers []int) bool {
	for i := 1; i < len(numbers); i++ {
		if numbers[i] <= numbers[i-1] {
			return false
		}
	}
	return true
}

// chainsOf returns all chains, in the order of their first notices. A notice follows an earlier one, whose chain is there already.
func chainsOf(notices []Notice) [][]int {
	var chains [][]int
	for notice, n := range notices {
		if n.After == None {
			chains = append(chains, []int{notice})
			continue
		}
		i := numberOf(chains, n.After)
		chains[i] = append(chains[i], notice)
	}
	return chains
}

// numberOf returns which one of some chains has a notice.
func numberOf(chains [][]int, notice int) int {
	return slices.IndexFunc(chains, func(chain []int) bool { return slices.Contains(chain, notice) })
}

// isLast reports whether no notice follows another one.
func (w work) isLast(notice int) bool {
	return all(w.Notices, func(n Notice) bool { return n.After != notice })
}

func between(n, lo, hi int) bool { return lo <= n && n <= hi }
