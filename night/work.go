package night

import (
	"iter"
	"slices"

	"oyez/api"
)

// work is a watch at work: what is cried if a set sleeps, and which sets an explanation may have in an hour.
type work struct {
	Watch
	cried  map[int]int
	counts func(hour, asleep int) bool
}

// open returns a watch at work in which all sets count that fit, or the error of the watch.
func open(w Watch) (work, api.Errno) {
	if e := Check(w); e != api.OK {
		return work{}, e
	}
	return atWork(w, criedBy(w.Listens)), api.OK
}

func atWork(w Watch, cried map[int]int) work {
	x := work{Watch: w, cried: cried}
	x.counts = x.fits
	return x
}

// openExplained is open, with the error of a watch that has no explanation.
func openExplained(w Watch) (work, api.Errno) {
	x, e := open(w)
	if e != api.OK {
		return work{}, e
	}
	if !x.explained() {
		return work{}, api.ErrClash
	}
	return x, api.OK
}

// all reports whether something is so for each element of a list.
func all[T any](list []T, is func(T) bool) bool {
	for _, x := range list {
		if !is(x) {
			return false
		}
	}
	return true
}

// those returns the elements of a list for which something is so.
func those[T any](list []T, is func(T) bool) []T {
	var some []T
	for _, x := range list {
		if is(x) {
			some = append(some, x)
		}
	}
	return some
}

func (w work) isSet(asleep int) bool  { return between(asleep, 0, w.allMen()) }
func (w work) isPlace(p Place) bool   { return slices.Contains(w.places(), p) }
func (w work) isUnknown(p Place) bool { return w.Hours[p.Hour][p.Man] == Unknown }
func isMark(m Mark) bool              { return m == Unknown || m == Heard || m == Silent }
func isNumberOfNaps(n int) bool       { return between(n, 0, MaxNaps) }
func between(n, lo, hi int) bool      { return lo <= n && n <= hi }
func has(set, man int) bool           { return set>>man&1 == 1 }
func (w work) allMen() int            { return 1<<len(w.Listens) - 1 }

// wrongCounts reports whether there are too many men or hours, or too few, or marks of an hour.
func (w work) wrongCounts() bool {
	men := len(w.Listens)
	if !between(men, 1, MaxMen) || !between(len(w.Hours), 1, MaxHours) {
		return true
	}
	return !all(w.Hours, func(marks []Mark) bool { return len(marks) == men })
}

func (w work) listensError() api.Errno {
	for man, others := range w.Listens {
		for i, other := range others {
			if !between(other, 0, man-1) {
				return api.ErrAbsent
			}
			if slices.Contains(others[:i], other) {
				return api.ErrTwice
			}
		}
	}
	return api.OK
}

// places returns all places, in order.
func (w work) places() []Place {
	var places []Place
	for hour := range len(w.Hours) {
		places = append(places, w.placesOf(hour)...)
	}
	return places
}

func (w work) placesOf(hour int) []Place {
	var places []Place
	for man := range len(w.Listens) {
		places = append(places, Place{hour, man})
	}
	return places
}

// with returns a copy of a watch with another mark at a place.
func (w Watch) with(p Place, m Mark) Watch {
	w.Listens, w.Hours = copied(w.Listens), copied(w.Hours)
	w.Hours[p.Hour][p.Man] = m
	return w
}

func copied[T any](lists [][]T) [][]T {
	all := make([][]T, len(lists))
	for i, l := range lists {
		all[i] = slices.Clone(l)
	}
	return all
}

// criedBy returns for each set that sleeps the set of the men who cry. Those to whom a man listens are told before him.
func criedBy(listens [][]int) map[int]int {
	cried := map[int]int{}
	for asleep := range 1 << len(listens) {
		cries := 0
		hears := func(man int) bool { return has(cries, man) }
		for man, others := range listens {
			if !has(asleep, man) && (len(others) == 0 || slices.ContainsFunc(others, hears)) {
				cries |= 1 << man
			}
		}
		cried[asleep] = cries
	}
	return cried
}

// agrees reports whether the mark at a place can be if a set sleeps.
func (w work) agrees(p Place, asleep int) bool {
	cries := has(w.cried[asleep], p.Man)
	switch w.Hours[p.Hour][p.Man] {
	case Heard:
		return cries
	case Silent:
		return !cries
	}
	return true
}

func (w work) fits(hour, asleep int) bool {
	for man := range len(w.Listens) {
		if !w.agrees(Place{hour, man}, asleep) {
			return false
		}
	}
	return true
}

// sets yields the sets that fit an hour and count, in increasing order.
func (w work) sets(hour int) iter.Seq[int] {
	return func(yield func(int) bool) {
		for set := range w.allMen() + 1 {
			if w.counts(hour, set) && !yield(set) {
				return
			}
		}
	}
}

// only returns a watch at work in which fewer sets count.
func (w work) only(is func(set int) bool) work {
	fits := w.fits
	w.counts = func(hour, asleep int) bool { return is(asleep) && fits(hour, asleep) }
	return w
}
