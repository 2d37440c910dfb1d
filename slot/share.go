package slot

import "slices"

// loads returns the load of each man.
func (w work) loads(share [][]int) []int {
	loads := make([]int, w.Men)
	for _, c := range cries(share) {
		loads[c.man]++
	}
	return loads
}

// times returns how often each notice must be cried.
func (w work) times() []int {
	var list []int
	for _, n := range w.Notices {
		list = append(list, n.Times)
	}
	return list
}

// limited returns the roll at work if no man may have more notices than a limit.
func (w work) limited(limit int) work {
	w.takes = func(_, load int) bool { return load < limit }
	return w
}

// sparing returns the roll at work if a man may take none.
func (w work) sparing(man int) work {
	takes := w.takes
	w.takes = func(other, load int) bool { return other != man && takes(other, load) }
	return w
}

// without returns the roll at work if a man may not cry a notice.
func (w work) without(c cry) work {
	w.Notices = slices.Clone(w.Notices)
	w.Notices[c.notice].Men = except(w.Notices[c.notice].Men, c.man)
	return w
}

// with returns the roll at work if a notice must be cried so many times.
func (w work) with(notice, times int) work {
	w.Notices = slices.Clone(w.Notices)
	w.Notices[notice].Times = times
	return w
}

// shared returns a share among the men who may take more, and whether there is one.
func (w work) shared() ([][]int, bool) {
	share := make([][]int, len(w.Notices))
	for notice, n := range w.Notices {
		for range n.Times {
			if !w.give(share, notice, map[int]bool{}) {
				return nil, false
			}
		}
	}
	for _, men := range share {
		slices.Sort(men)
	}
	return share, true
}

// give has a notice cried by one man more, and reports whether there is one. A man who may take no more can take it if
// one of his notices is cried by another man. If there is none who can, the share stays as it is.
func (w work) give(share [][]int, notice int, met map[int]bool) bool {
	taker := None
search:
	for _, man := range w.Notices[notice].Men {
		if met[man] || slices.Contains(share[notice], man) {
			continue
		}
		met[man] = true
		if w.takes(man, w.loads(share)[man]) {
			taker = man
			break search
		}
		for other := range share {
			if slices.Contains(share[other], man) && w.give(share, other, met) {
				share[other] = except(share[other], man)
				taker = man
				break search
			}
		}
	}
	if taker == None {
		return false
	}
	share[notice] = append(share[notice], taker)
	return true
}

// least returns a share whose load is as small as can be, and this. No man has more notices than there are, so the
// search ends.
func (w work) least() ([][]int, int) {
	for limit := 0; ; limit++ {
		if share, is := w.limited(limit).shared(); is {
			return share, limit
		}
	}
}

// need returns what men must cry.
func (w work) need(men []int) int {
	total := 0
	for _, n := range w.Notices {
		others := those(n.Men, func(man int) bool { return !slices.Contains(men, man) })
		total += max(0, n.Times-len(others))
	}
	return total
}

// proves returns what men prove, who are not none.
func (w work) proves(men []int) int { return (w.need(men) + len(men) - 1) / len(men) }

// sets returns all sets of so many men, in lexicographic order.
func (w work) sets(many int) [][]int {
	var sets [][]int
	var choose func(chosen []int, from int)
	choose = func(chosen []int, from int) {
		if len(chosen) == many {
			sets = append(sets, slices.Clone(chosen))
			return
		}
		for man := from; man < w.Men; man++ {
			choose(append(chosen, man), man+1)
		}
	}
	choose(nil, 0)
	return sets
}

// tight returns the first of the smallest sets that prove as much as any does.
func (w work) tight() []int {
	var best []int
	most := 0
	for many := range w.Men {
		for _, men := range w.sets(many + 1) {
			if n := w.proves(men); n > most {
				best, most = men, n
			}
		}
	}
	return best
}

// musts returns for each notice the men without whom no share of it has the least load.
func (w work) musts() [][]int {
	_, least := w.least()
	lists := make([][]int, len(w.Notices))
	for notice, n := range w.Notices {
		lists[notice] = those(n.Men, func(man int) bool {
			_, is := w.without(cry{notice, man}).limited(least).shared()
			return !is
		})
	}
	return lists
}

// spare returns the men without each of whom there is a share with the least load.
func (w work) spare() []int {
	_, least := w.least()
	return those(numbers(w.Men), func(man int) bool {
		_, is := w.limited(least).sparing(man).shared()
		return is
	})
}

// slots returns how many the busiest man or notice of a share needs.
func (w work) slots(share [][]int) int {
	return greatest(slices.Concat(w.loads(share), w.times())...)
}

// fewest returns how many slots the best plan has.
func (w work) fewest() int {
	share, _ := w.least()
	return w.slots(share)
}

// more returns the greatest number of times with which a notice makes the best plan no longer.
func (w work) more(notice int) int {
	n := w.Notices[notice]
	slots := w.fewest()
	for times := min(MaxTimes, len(n.Men)); times > n.Times; times-- {
		if w.with(notice, times).fewest() <= slots {
			return times
		}
	}
	return n.Times
}
