package hear

import (
	"iter"
	"math"
	"slices"

	"oyez/api"
)

func (w work) wall(plot int) bool { return w.Plots[plot] == Wall }

// enough reports whether the voice is as loud as a cry needs.
func (w work) enough(need int) bool { return need != None && need <= w.Voice }

// around yields the neighbours of a plot with the steps to them, but none that is barred, and none from a barred plot.
func (w work) around(plot int, barred func(int) bool) iter.Seq2[int, step] {
	return func(yield func(int, step) bool) {
		if barred(plot) {
			return
		}
		rows := len(w.Plots) / w.Wide
		for wind := North; wind <= West; wind++ {
			s := w.goes[wind]
			row, column := plot/w.Wide+s.south, plot%w.Wide+s.east
			if row < 0 || row >= rows || column < 0 || column >= w.Wide {
				continue
			}
			to := row*w.Wide + column
			if !barred(to) && !yield(to, s) {
				return
			}
		}
	}
}

// steps yields the plots to which a voice can go from a plot, with what the steps need.
func (w work) steps(from int) iter.Seq2[int, int] {
	return func(yield func(int, int) bool) {
		for to, s := range w.around(from, w.wall) {
			if !yield(to, w.costs(s, to)) {
				return
			}
		}
	}
}

// costs returns what a step to a plot needs.
func (w work) costs(s step, to int) int {
	blows := w.goes[w.Wind]
	n := 2
	if s == blows {
		n = 1
	} else if s == blows.back() {
		n = 4
	}
	if w.Plots[to] == House {
		n++
	}
	return n
}

// needs returns the loudness that a cry on a stand needs to each plot. No number is right before all are, so steps lower them until none does.
func (w work) needs(stand int) []int {
	table := make([]int, len(w.Plots))
	for p := range table {
		table[p] = None
	}
	table[stand] = 0
	for lowered := true; lowered; {
		lowered = false
		for from := range len(w.Plots) {
			if table[from] != None && w.lower(table, from) {
				lowered = true
			}
		}
	}
	return table
}

// lower enters what is needed by steps from a plot where it is less, and reports whether it was anywhere.
func (w work) lower(table []int, from int) bool {
	lowered := false
	for to, n := range w.steps(from) {
		need := table[from] + n
		if table[to] != None {
			need = least(need, table[to])
		}
		if need != table[to] {
			table[to] = need
			lowered = true
		}
	}
	return lowered
}

// agrees reports whether no step leads to a greater number than it may.
func (w work) agrees(table []int) bool {
	for from := range len(w.Plots) {
		for to, n := range w.steps(from) {
			// Numbers of a table have no limits: one that is so great that the sum is no int allows all others.
			if table[from] <= math.MaxInt-n && table[to] > table[from]+n {
				return false
			}
		}
	}
	return true
}

// way returns a way that needs what the table says. It is found from its end: as each step needs at least 1, it comes to the stand.
func (w work) way(table []int, stand, plot int) []int {
	list := []int{plot}
	for plot != stand {
		plot = w.before(table, plot)
		list = append(list, plot)
	}
	slices.Reverse(list)
	return list
}

// before returns a plot from which a least way comes to another one, which is not the stand.
func (w work) before(table []int, plot int) int {
	for from := range len(w.Plots) {
		for to, n := range w.steps(from) {
			if to == plot && table[from]+n == table[plot] {
				return from
			}
		}
	}
	return None
}

// takes returns the loudness that a way needs, or ErrFalse.
func (w work) takes(way []int) (int, api.Errno) {
	if plotError(w.Town, way[0], Street) != api.OK {
		return 0, api.ErrFalse
	}
	total, at := 0, way[0]
	e := firstError(way[1:], func(plot int) api.Errno {
		for to, n := range w.steps(at) {
			if to == plot {
				total += n
				at = plot
				return api.OK
			}
		}
		return api.ErrFalse
	})
	if e != api.OK {
		return 0, e
	}
	return total, api.OK
}
