package slot

import (
	"iter"
	"slices"
)

// grid tells which notice each man has in each slot.
type grid [MaxSlots][MaxMen]int

// blank returns a grid without notices.
func blank() grid {
	var g grid
	for slot := range MaxSlots {
		for man := range MaxMen {
			g[slot][man] = None
		}
	}
	return g
}

// laid returns the grid of a plan.
func laid(plan [][]int) grid {
	g := blank()
	for slot, notices := range plan {
		copy(g[slot][:], notices)
	}
	return g
}

// told returns the first slots of a grid as a plan.
func (w work) told(g grid, slots int) [][]int {
	var plan [][]int
	for slot := range slots {
		plan = append(plan, slices.Clone(g[slot][:w.Men]))
	}
	return plan
}

// with returns a grid with an entry more.
func (g grid) with(e Entry) grid {
	g[e.Slot][e.Man] = e.Notice
	return g
}

// exchanged returns a grid with two of its slots exchanged.
func (g grid) exchanged(one, other int) grid {
	g[one], g[other] = g[other], g[one]
	return g
}

// free yields the slots, of the first ones, in which a man can cry a notice.
func (g grid) free(c cry, slots int) iter.Seq[int] {
	return func(yield func(int) bool) {
		for slot := range slots {
			if g[slot][c.man] == None && !slices.Contains(g[slot][:], c.notice) && !yield(slot) {
				return
			}
		}
	}
}

// repeats reports whether a slot is as one before it. Then it need not be tried.
func (g grid) repeats(slot int) bool {
	return slices.ContainsFunc(numbers(slot), func(other int) bool { return g.exchanged(slot, other) == g })
}

// hardest returns the first of the cries that have the fewest free slots.
func (g grid) hardest(left []cry, slots int) cry {
	room := func(c cry) int { return len(slices.Collect(g.free(c, slots))) }
	return slices.MinFunc(left, func(a, b cry) int { return room(a) - room(b) })
}

// lay returns a grid into which the cries that are left are laid, too, and whether there is one.
func (g grid) lay(left []cry, slots int) (grid, bool) {
	if len(left) == 0 {
		return g, true
	}
	next := g.hardest(left, slots)
	rest := those(left, func(c cry) bool { return c != next })
	for slot := range g.free(next, slots) {
		if g.repeats(slot) {
			continue
		}
		if full, is := g.with(Entry{slot, next.man, next.notice}).lay(rest, slots); is {
			return full, true
		}
	}
	return grid{}, false
}

// keeping returns a grid for a share that keeps entries, and whether there is one. To find out by trying that a man or a
// notice needs more slots than there are would take long.
func (w work) keeping(share [][]int, slots int, kept []Entry) (grid, bool) {
	if slots < w.slots(share) {
		return grid{}, false
	}
	g := blank()
	left := cries(share)
	for _, k := range kept {
		g = g.with(k)
		left = those(left, func(c cry) bool { return c != cry{k.Notice, k.Man} })
	}
	return g.lay(left, slots)
}

// planned returns a plan for a share with as few slots as can be. There is always one.
func (w work) planned(share [][]int) [][]int {
	slots := w.slots(share)
	g, _ := w.keeping(share, slots, nil)
	return w.told(g, slots)
}

// sharedIn returns the men who cry each notice in a plan, man by man. Who cries it twice is named twice.
func (w work) sharedIn(plan [][]int) [][]int {
	share := make([][]int, len(w.Notices))
	for man := range w.Men {
		for _, notices := range plan {
			if n := notices[man]; n != None {
				share[n] = append(share[n], man)
			}
		}
	}
	return share
}
