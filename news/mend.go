package news

import (
	"cmp"
	"slices"

	"oyez/api"
)

// left is the gaps after some evenings, and the cries by which they can be mended; mends tells whether a further cry mends a gap.
type left struct {
	work
	gaps  []Gap
	lasts []Cry
	mends func(c Cry, g Gap) bool
}

// left returns the gaps after some evenings, to be mended at some stands.
func (w work) left(cries []Cry, evenings int, stands []int) left {
	return left{w, w.gaps(w.course.after(evenings)), w.lastsAt(stands), w.mending(cries, evenings)}
}

// lastsAt returns the cries of the last notices of all chains at some stands.
// What an earlier notice of a chain mends, the last one mends, too, and it is the only one that never makes a gap: no other cries are needed.
func (w work) lastsAt(stands []int) []Cry {
	var lasts []Cry
	for notice := range len(w.Notices) {
		for _, stand := range stands {
			if w.isLast(notice) {
				lasts = append(lasts, Cry{notice, stand})
			}
		}
	}
	return lasts
}

// mending returns whether a further cry mends a gap. It keeps what each cry leaves, as it is asked for many gaps.
func (w work) mending(cries []Cry, evenings int) func(Cry, Gap) bool {
	known := map[Cry][]Gap{}
	return func(c Cry, g Gap) bool {
		gaps, ok := known[c]
		if !ok {
			gaps = w.gaps(w.courseOf(with(cries, c)).after(evenings))
			known[c] = gaps
		}
		return !slices.Contains(gaps, g)
	}
}

// with returns cries with a further one.
func with(cries []Cry, further Cry) []Cry {
	return append(slices.Clone(cries), further)
}

// menders returns the cries that mend a gap.
func (l left) menders(g Gap) []Cry {
	return those(l.lasts, func(c Cry) bool { return l.mends(c, g) })
}

// gapsOf returns the gaps with a notice of a chain. No cry mends gaps of two chains, so each chain is mended by itself.
func (l left) gapsOf(chain []int) []Gap {
	return those(l.gaps, func(g Gap) bool { return slices.Contains(chain, g.Notice) })
}

// fewest returns the fewest further cries that leave none, or ErrNone.
func (l left) fewest() ([]Cry, api.Errno) {
	if !all(l.gaps, func(g Gap) bool { return len(l.menders(g)) > 0 }) {
		return nil, api.ErrNone
	}
	var cries []Cry
	for _, chain := range l.chains {
		cries = append(cries, l.fewestFor(l.gapsOf(chain))...)
	}
	return cries, api.OK
}

// fewestFor returns the fewest further cries that mend some gaps, each of which some cry mends. One of those that mend the first gap is among them.
func (l left) fewestFor(gaps []Gap) []Cry {
	var best []Cry
	found := false
	var choose func(chosen []Cry, gaps []Gap)
	choose = func(chosen []Cry, gaps []Gap) {
		if found && len(chosen) >= len(best) {
			return
		}
		if len(gaps) == 0 {
			best, found = slices.Clone(chosen), true
			return
		}
		for _, c := range l.menders(gaps[0]) {
			choose(append(chosen, c), those(gaps, func(g Gap) bool { return !l.mends(c, g) }))
		}
	}
	choose(nil, gaps)
	return best
}

// apart returns as many gaps as can be, no two of which the same cry mends. The first list of each chain makes the first list of all.
func (l left) apart() []Gap {
	var apart []Gap
	for _, chain := range l.chains {
		apart = append(apart, l.apartAmong(l.gapsOf(chain))...)
	}
	slices.SortFunc(apart, func(a, b Gap) int {
		return cmp.Or(cmp.Compare(a.House, b.House), cmp.Compare(a.Notice, b.Notice))
	})
	return apart
}

// apartAmong returns as many of some gaps as can be, no two of which the same cry mends.
// As each gap is taken before it is left out, of several longest lists the first one is found first, and no later one replaces it.
func (l left) apartAmong(gaps []Gap) []Gap {
	var menders [][]Cry
	for _, g := range gaps {
		menders = append(menders, l.menders(g))
	}
	var best []Gap
	var take func(i int, taken []Gap, used []Cry)
	take = func(i int, taken []Gap, used []Cry) {
		if len(taken)+len(gaps)-i <= len(best) {
			return
		}
		if i == len(gaps) {
			best = slices.Clone(taken)
			return
		}
		if all(menders[i], func(c Cry) bool { return !slices.Contains(used, c) }) {
			take(i+1, append(taken, gaps[i]), append(used, menders[i]...))
		}
		take(i+1, taken, used)
	}
	take(0, nil, nil)
	return best
}
