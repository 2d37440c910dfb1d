package hear

import "oyez/api"

// ears is which stands a house hears.
type ears [MaxPlots]bool

// listener is a house that counts, and what it hears.
type listener struct {
	house int
	hears ears
}

func (l listener) deaf() bool { return l.hears == ears{} }

// crowd is how many houses hear the same stands.
type crowd struct {
	hears ears
	many  int
}

// numbers has for each number of stands how many houses they serve. More stands than there can be houses serve no more.
type numbers [MaxHouses + 1]int

// tables returns for each stand what a cry there needs to each plot.
func (w work) tables() [MaxPlots][]int {
	var all [MaxPlots][]int
	for p := range len(w.Plots) {
		if w.Plots[p] == Street {
			all[p] = w.needs(p)
		}
	}
	return all
}

// hears returns which stands a house hears; only a stand has a table.
func (w work) hears(tables [MaxPlots][]int, house int) ears {
	var hears ears
	for stand, table := range tables {
		hears[stand] = len(table) > 0 && w.enough(table[house])
	}
	return hears
}

// listeners returns the houses that count, in increasing order.
func (w work) listeners(tables [MaxPlots][]int) []listener {
	var list []listener
	for p := range len(w.Plots) {
		if w.Plots[p] == House && w.counts(p) {
			list = append(list, listener{p, w.hears(tables, p)})
		}
	}
	return list
}

// hearers returns the houses that are named with what they hear, or ErrNone if one of them is deaf.
func hearers(t Town, a Air, houses []int) ([]listener, api.Errno) {
	w, e := openQuarter(t, a, houses)
	if e != api.OK {
		return nil, e
	}
	list := w.listeners(w.tables())
	e = firstError(list, func(l listener) api.Errno {
		if l.deaf() {
			return api.ErrNone
		}
		return api.OK
	})
	if e != api.OK {
		return nil, e
	}
	return list, api.OK
}

// onlyHears returns whether a house hears one stand, and no other one.
func onlyHears(stand int) func(listener) bool {
	var only ears
	only[stand] = true
	return func(l listener) bool { return l.hears == only }
}

// crowds puts together the houses that hear the same stands: what serves one of them serves them all.
func crowds(list []listener) []crowd {
	var all []crowd
next:
	for _, l := range list {
		for i := range all {
			if all[i].hears == l.hears {
				all[i].many++
				continue next
			}
		}
		all = append(all, crowd{l.hears, 1})
	}
	return all
}

// served returns for each stand the set of the crowds that hear it.
func served(all []crowd) [MaxPlots]int {
	var sets [MaxPlots]int
	for i, c := range all {
		for stand, hears := range c.hears {
			if hears {
				sets[stand] |= 1 << i
			}
		}
	}
	return sets
}

// many returns how many houses a set of crowds has.
func many(all []crowd, set int) int {
	n := 0
	for i, c := range all {
		if set&(1<<i) != 0 {
			n += c.many
		}
	}
	return n
}

// mostServed returns a function that tells, of a set of crowds that are served already, how many houses are served at most with so many stands more.
// It keeps what it has told, as many lists of stands serve the same crowds.
func mostServed(all []crowd) func(set int) numbers {
	sets := served(all)
	known := map[int]numbers{}
	var most func(set int) numbers
	most = func(set int) numbers {
		if n, ok := known[set]; ok {
			return n
		}
		var best numbers
		for k := range best {
			best[k] = many(all, set)
		}
		for _, more := range sets {
			if set|more == set {
				continue
			}
			then := most(set | more)
			for k := 1; k < len(best); k++ {
				best[k] = max(best[k], then[k-1])
			}
		}
		known[set] = best
		return best
	}
	return most
}

// choose returns at most so many stands that serve as many houses as can be, and how many these are.
// The first stand with which the list can still be as short as any makes it the first list of all.
// A stand that was left out cannot belong to it later: with it, a list that comes before would have been as short.
func choose(list []listener, stands int) ([]int, int) {
	all := crowds(list)
	most, sets := mostServed(all), served(all)
	left, houses := fewestFor(most(0), least(stands, MaxHouses, len(all)))
	var chosen []int
	set := 0
	for stand, more := range sets {
		if left > 0 && most(set | more)[left-1] == houses {
			chosen = append(chosen, stand)
			set |= more
			left--
		}
	}
	return chosen, houses
}

// fewestFor returns the fewest stands that serve as many houses as at most so many stands do, and how many these are.
func fewestFor(n numbers, stands int) (int, int) {
	fewest := 0
	for n[fewest] < n[stands] {
		fewest++
	}
	return fewest, n[stands]
}

// leastVoice returns the least voice with which so many stands serve the houses that count, or None.
func (w work) leastVoice(stands int) int {
	tables := w.tables()
	found := None
search:
	for voice := 1; voice <= MaxVoice; voice++ {
		w.Voice = voice
		list := w.listeners(tables)
		for _, l := range list {
			if l.deaf() {
				continue search
			}
		}
		if _, n := choose(list, stands); n == len(list) {
			found = voice
			break search
		}
	}
	return found
}

// apart returns as many of the houses as can be, no two of which hear the same stand.
// As each house is taken before it is left out, of several longest lists the first one is found first, and no later one replaces it.
func apart(list []listener) []int {
	var best []int
	var take func(i int, taken []int, heard ears)
	take = func(i int, taken []int, heard ears) {
		if len(taken)+len(list)-i <= len(best) {
			return
		}
		if i == len(list) {
			best = append([]int{}, taken...)
			return
		}
		l := list[i]
		if both, ok := together(heard, l.hears); ok {
			take(i+1, append(taken, l.house), both)
		}
		take(i+1, taken, heard)
	}
	take(0, nil, ears{})
	return best
}

// together returns which stands are heard by some of two, and whether none is heard by both.
func together(a, b ears) (ears, bool) {
	for stand, hears := range b {
		if hears && a[stand] {
			return ears{}, false
		}
		a[stand] = a[stand] || hears
	}
	return a, true
}
