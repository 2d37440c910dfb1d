package hear

import "oyez/api"

// work is a town at work in some air.
type work struct {
	Town
	Air
	goes   map[Dir]step
	counts func(house int) bool
}

// step is how far a voice goes from a plot to its neighbour.
type step struct{ south, east int }

func (s step) back() step { return step{-s.south, -s.east} }

// directions returns the step of each wind. The calm has none, and so the zero step, which no voice takes.
func directions() map[Dir]step {
	return map[Dir]step{North: {south: -1}, East: {east: 1}, South: {south: 1}, West: {east: -1}}
}

// windOnly returns an air for a call that has a wind and no voice, so that only the wind can be wrong.
func windOnly(wind Dir) Air { return Air{Wind: wind, Voice: MaxVoice} }

// open returns a town at work in which all houses count, or the error of the town or the air.
func open(t Town, a Air) (work, api.Errno) {
	if e := Check(t); e != api.OK {
		return work{}, e
	}
	if e := CheckAir(a); e != api.OK {
		return work{}, e
	}
	all := func(int) bool { return true }
	return work{Town: t, Air: a, goes: directions(), counts: all}, api.OK
}

// openAt is open, with the error of a plot that must be of some kind.
func openAt(t Town, a Air, plot int, kind Plot) (work, api.Errno) {
	w, e := open(t, a)
	if e == api.OK {
		e = plotError(t, plot, kind)
	}
	if e != api.OK {
		return work{}, e
	}
	return w, api.OK
}

// openQuarter is open, with the errors of houses; only these count.
func openQuarter(t Town, a Air, houses []int) (work, api.Errno) {
	w, e := open(t, a)
	if e != api.OK {
		return work{}, e
	}
	var named [MaxPlots]bool
	e = firstError(houses, func(house int) api.Errno {
		if e := plotError(t, house, House); e != api.OK {
			return e
		}
		if named[house] {
			return api.ErrTwice
		}
		named[house] = true
		return api.OK
	})
	if e != api.OK {
		return work{}, e
	}
	w.counts = func(house int) bool { return named[house] }
	return w, api.OK
}

// firstError asks each element of a list in its order, and returns the first error.
func firstError[T any](list []T, ask func(T) api.Errno) api.Errno {
	for _, x := range list {
		if e := ask(x); e != api.OK {
			return e
		}
	}
	return api.OK
}

// plotError returns the error of a plot that must be of some kind.
func plotError(t Town, plot int, kind Plot) api.Errno {
	if plot < 0 || plot >= len(t.Plots) {
		return api.ErrAbsent
	}
	if t.Plots[plot] != kind {
		return api.ErrFalse
	}
	return api.OK
}

// reachError returns the error of a plot to which a voice must have a way.
func reachError(table []int, plot int) api.Errno {
	if plot < 0 || plot >= len(table) {
		return api.ErrAbsent
	}
	if table[plot] == None {
		return api.ErrNone
	}
	return api.OK
}

func least(first int, others ...int) int {
	for _, n := range others {
		if n < first {
			first = n
		}
	}
	return first
}
