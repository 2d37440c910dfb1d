package round

import (
	"slices"

	"oyez/api"
)

// work is a beat at work; inTime tells whether a notice that is heard at a minute is heard in time.
type work struct {
	Beat
	quick  walks
	pairs  []Pair
	inTime func(notice, minute int) bool
}

// open returns a beat at work, or the error of the beat.
func open(b Beat) (work, api.Errno) {
	if e := Check(b); e != api.OK {
		return work{}, e
	}
	return atWork(b), api.OK
}

// atWork returns a beat at work that has no error.
func atWork(b Beat) work {
	w := work{Beat: b}
	w.quick = w.quickest()
	w.pairs = w.allPairs()
	w.inTime = w.byHourAnd(MaxHour)
	return w
}

// openWalk is open, with the errors of a walk.
func openWalk(b Beat, from, to int) (work, api.Errno) {
	w, e := open(b)
	if e != api.OK {
		return work{}, e
	}
	if e := firstError([]int{from, to}, orAbsent(w.isStand)); e != api.OK {
		return work{}, e
	}
	if w.quick[from][to] == far {
		return work{}, api.ErrNone
	}
	return w, api.OK
}

// openNotice is open, with the error of a notice.
func openNotice(b Beat, notice int) (work, api.Errno) {
	w, e := open(b)
	if e != api.OK {
		return work{}, e
	}
	if !w.isNotice(notice) {
		return work{}, api.ErrAbsent
	}
	return w, api.OK
}

// openRound is open, with the errors of a round, and the minutes at which its cries end.
func openRound(b Beat, round []Cry) (work, []int, api.Errno) {
	w, e := open(b)
	if e != api.OK {
		return work{}, nil, e
	}
	if len(round) > MaxCries {
		return work{}, nil, api.ErrCount
	}
	ends, e := w.ends(round)
	if e != api.OK {
		return work{}, nil, e
	}
	return w, ends, api.OK
}

// firstError asks each element of a list in its order, and returns the first error.
func firstError[T any](list []T, ask func(T) api.Errno) api.Errno {
	for _, x := range list {
		if e := ask(x); e != api.OK {
			return e
		}
	}
	return api.OK
}

// orAbsent returns ErrAbsent for what is none.
func orAbsent[T any](is func(T) bool) func(T) api.Errno {
	return func(x T) api.Errno {
		if !is(x) {
			return api.ErrAbsent
		}
		return api.OK
	}
}

// once returns the error of an element, or ErrTwice if the element was asked for before.
func once[T comparable](ask func(T) api.Errno) func(T) api.Errno {
	var before []T
	return func(x T) api.Errno {
		if e := ask(x); e != api.OK {
			return e
		}
		if slices.Contains(before, x) {
			return api.ErrTwice
		}
		before = append(before, x)
		return api.OK
	}
}

func (w work) isStand(stand int) bool   { return between(stand, 0, len(w.Walks)-1) }
func (w work) isHouse(house int) bool   { return between(house, 0, w.Houses-1) }
func (w work) isNotice(notice int) bool { return between(notice, 0, len(w.Notices)-1) }
func (w work) isPair(p Pair) bool       { return slices.Contains(w.pairs, p) }

// wrongCounts reports whether there are too many things of a kind, or too few.
func (w work) wrongCounts() bool {
	stands := len(w.Walks)
	if !between(stands, 1, MaxStands) || !between(w.Houses, 1, MaxHouses) || len(w.Notices) > MaxNotices {
		return true
	}
	short := func(row []int) bool { return len(row) != stands }
	return len(w.Hears) != stands || slices.ContainsFunc(w.Walks, short)
}

func (w work) wrongWalks() bool {
	for from, row := range w.Walks {
		for to, minutes := range row {
			if !walkAllowed(from, to, minutes) {
				return true
			}
		}
	}
	return false
}

func walkAllowed(from, to, minutes int) bool {
	if from == to {
		return minutes == 0
	}
	return minutes == None || between(minutes, 1, MaxWalk)
}

// housesError returns the first error of houses that are asked one by one.
func (w work) housesError(houses []int) api.Errno {
	return firstError(houses, once(orAbsent(w.isHouse)))
}

func (w work) noticeError(n Notice) api.Errno {
	if len(n.Quarter) == 0 {
		return api.ErrNone
	}
	if e := w.housesError(n.Quarter); e != api.OK {
		return e
	}
	if !between(n.Words, 1, MaxWords) || !between(n.Hour, 0, MaxHour) {
		return api.ErrRange
	}
	return api.OK
}

// allPairs returns all pairs, in order: a quarter may name its houses in another one.
func (w work) allPairs() []Pair {
	var all []Pair
	for notice, n := range w.Notices {
		for house := range w.Houses {
			if slices.Contains(n.Quarter, house) {
				all = append(all, Pair{notice, house})
			}
		}
	}
	return all
}

// byHourAnd returns whether a notice is heard by its Hour, and by a minute.
func (w work) byHourAnd(last int) func(notice, minute int) bool {
	return func(notice, minute int) bool { return minute <= least(w.Notices[notice].Hour, last) }
}

// put returns a copy of a beat in which a notice has another hour.
func (b Beat) put(notice, hour int) Beat {
	b.Walks, b.Hears = copied(b.Walks), copied(b.Hears)
	b.Notices = slices.Clone(b.Notices)
	for i := range b.Notices {
		b.Notices[i].Quarter = slices.Clone(b.Notices[i].Quarter)
	}
	b.Notices[notice].Hour = hour
	return b
}

func copied(lists [][]int) [][]int {
	all := make([][]int, len(lists))
	for i, l := range lists {
		all[i] = slices.Clone(l)
	}
	return all
}

func between(n, lo, hi int) bool { return lo <= n && n <= hi }

func least(first int, others ...int) int {
	for _, n := range others {
		if n < first {
			first = n
		}
	}
	return first
}
