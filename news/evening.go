package news

import (
	"iter"
	"slices"
)

// held is for each house and each chain the last notice that the house knows, or None.
type held [MaxHouses][MaxNotices]int

// course is what all houses hold, from evening to evening, until nothing changes any more.
type course []held

// after returns what all houses hold after so many evenings.
func (c course) after(evenings int) held { return c[min(evenings, c.settles())] }

// settles returns after how many evenings nothing changes any more.
func (c course) settles() int { return len(c) - 1 }

// listener is a house that hears stands, or does not.
type listener struct {
	News
	house int
}

func (l listener) hears(stand int) bool { return slices.Contains(l.Stands[stand], l.house) }

// heard returns the notices that a house hears, in increasing order.
func (w work) heard(cries []Cry, house int) []int {
	l := listener{w.News, house}
	var heard []int
	for notice := range len(w.Notices) {
		if slices.ContainsFunc(standsOf(cries, notice), l.hears) {
			heard = append(heard, notice)
		}
	}
	return heard
}

// standsOf returns the stands at which a notice is cried.
func standsOf(cries []Cry, notice int) []int {
	var stands []int
	for _, c := range cries {
		if c.Notice == notice {
			stands = append(stands, c.Stand)
		}
	}
	return stands
}

// neighbours yields the neighbours of a house, in increasing order.
func (w work) neighbours(house int) iter.Seq[int] {
	return func(yield func(int) bool) {
		for other := range w.Houses {
			if w.linked[linkOf(house, other)] && !yield(other) {
				return
			}
		}
	}
}

// later returns the last one of some notices of a chain, as each of them follows one with a smaller number; None comes before all.
func later(first int, others ...int) int {
	for _, notice := range others {
		if notice > first {
			first = notice
		}
	}
	return first
}

// atFirst returns what all houses hold after no evening.
func (w work) atFirst(cries []Cry) held {
	var now held
	for house := range w.Houses {
		heard := w.heard(cries, house)
		for i, chain := range w.chains {
			of := func(notice int) bool { return slices.Contains(chain, notice) }
			now[house][i] = later(None, those(heard, of)...)
		}
	}
	return now
}

// next returns what all houses hold an evening later.
func (w work) next(now held) held {
	then := now
	for house := range w.Houses {
		for other := range w.neighbours(house) {
			for i := range w.chains {
				then[house][i] = later(then[house][i], now[other][i])
			}
		}
	}
	return then
}

// courseOf returns the course of cries. It ends, as no house holds an earlier notice of a chain than before.
func (w work) courseOf(cries []Cry) course {
	now := w.atFirst(cries)
	c := course{now}
	for {
		then := w.next(now)
		if then == now {
			return c
		}
		c = append(c, then)
		now = then
	}
}

// holds returns the notices that a house holds, in increasing order.
func (w work) holds(now held, house int) []int {
	var notices []int
	for i := range w.chains {
		if notice := now[house][i]; notice != None {
			notices = append(notices, notice)
		}
	}
	slices.Sort(notices)
	return notices
}

// has reports whether a house holds a notice after so many evenings.
func (w work) has(evenings, house, notice int) bool {
	return slices.Contains(w.holds(w.course.after(evenings), house), notice)
}

// gaps returns all gaps, in their order.
func (w work) gaps(now held) []Gap {
	var gaps []Gap
	for house := range w.Houses {
		for _, notice := range w.holds(now, house) {
			if !w.isLast(notice) {
				gaps = append(gaps, Gap{house, notice})
			}
		}
	}
	return gaps
}

// firstEvening returns after how many evenings a house first holds a notice, or None.
func (w work) firstEvening(house, notice int) int {
	for evening := range w.course {
		if w.has(evening, house, notice) {
			return evening
		}
	}
	return None
}

// path returns a path for a notice to a house that first holds it after so many evenings. It is found from its end:
// some neighbour told the house, and held the notice an evening earlier for the first time, or the house would have been told before.
func (w work) path(evening, house, notice int) []int {
	path := []int{house}
back:
	for evening > 0 {
		evening--
		for other := range w.neighbours(house) {
			if w.has(evening, other, notice) {
				house = other
				path = append(path, house)
				continue back
			}
		}
	}
	slices.Reverse(path)
	return path
}

// passes reports whether a list is a path for a notice.
func (w work) passes(path []int, notice int) bool {
	if !between(len(path), 1, MaxEvenings+1) || !all(path, w.isHouse) {
		return false
	}
	for i, house := range path {
		if i > 0 && !w.linked[linkOf(path[i-1], house)] || !w.has(i, house, notice) {
			return false
		}
	}
	return true
}
