package round

import (
	"slices"

	"oyez/api"
)

// far is later than any round ends, and farther than any walk leads.
const far = 1 << 20

// walks has the minutes from each stand to each other one, far where no walk leads.
type walks [MaxStands][MaxStands]int

// straight returns the walks that are straight ways.
func (w work) straight() walks {
	var m walks
	for from, row := range w.Walks {
		for to, minutes := range row {
			m[from][to] = minutes
			if minutes == None {
				m[from][to] = far
			}
		}
	}
	return m
}

// quicker returns walks that may lead by one stand more.
func (w work) quicker(m walks) walks {
	for by := range len(w.Walks) {
		for from := range len(w.Walks) {
			for to := range len(w.Walks) {
				m[from][to] = least(m[from][to], m[from][by]+m[by][to])
			}
		}
	}
	return m
}

// quickest returns the walks of which none gets quicker.
func (w work) quickest() walks {
	m := w.straight()
	for {
		next := w.quicker(m)
		if next == m {
			return m
		}
		m = next
	}
}

// path returns the stands of a quickest walk.
func (w work) path(from, to int) []int {
	stands := []int{from}
	for from != to {
		from = w.next(from, to)
		stands = append(stands, from)
	}
	return stands
}

// next returns the stand to which a quickest walk leads straight. All ways take a minute at least, so the rest of it is quicker.
func (w work) next(from, to int) int {
	for stand, minutes := range w.Walks[from] {
		if minutes > 0 && minutes+w.quick[stand][to] == w.quick[from][to] {
			return stand
		}
	}
	return to
}

// end returns the minute at which a cry ends if the crier is at a stand at a minute; far, or later, if no walk leads there.
func (w work) end(stand, minute int, c Cry) int {
	return minute + w.quick[stand][c.Stand] + w.Notices[c.Notice].Words
}

// ends returns the minutes at which the cries of a round end, or the first error of a cry.
func (w work) ends(round []Cry) ([]int, api.Errno) {
	var ends []int
	stand, minute := w.Start, 0
	e := firstError(round, func(c Cry) api.Errno {
		if !w.isStand(c.Stand) || !w.isNotice(c.Notice) {
			return api.ErrAbsent
		}
		if w.quick[stand][c.Stand] == far {
			return api.ErrNone
		}
		minute = w.end(stand, minute, c)
		stand = c.Stand
		ends = append(ends, minute)
		return api.OK
	})
	if e != api.OK {
		return nil, e
	}
	return ends, api.OK
}

// heard returns for each notice and each house when it is first heard on a round whose cries end at such minutes, None if it never is.
func (w work) heard(round []Cry, ends []int) [][]int {
	var table [][]int
	for range w.Notices {
		table = append(table, slices.Repeat([]int{None}, w.Houses))
	}
	for i, c := range round {
		for _, house := range w.Hears[c.Stand] {
			if table[c.Notice][house] == None {
				table[c.Notice][house] = ends[i]
			}
		}
	}
	return table
}

// soonest returns the first minute at which any round serves a pair, None if none ever does.
func (w work) soonest(p Pair) int {
	var minutes []int
	for stand, houses := range w.Hears {
		if slices.Contains(houses, p.House) {
			minutes = append(minutes, w.end(w.Start, 0, Cry{stand, p.Notice}))
		}
	}
	first := least(far, minutes...)
	if first == far {
		return None
	}
	return first
}

// late returns the pairs that are not heard in time, if each is heard at a minute, or at None.
func (w work) late(heard func(Pair) int) []Pair {
	var late []Pair
	for _, p := range w.pairs {
		minute := heard(p)
		if minute == None || !w.inTime(p.Notice, minute) {
			late = append(late, p)
		}
	}
	return late
}
