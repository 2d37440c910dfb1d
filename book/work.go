package book

import (
	"slices"

	"oyez/api"
)

// work is a book at work: which winds each hour can have, what is told in each of them, to what the courses that fit come,
// and to what they must come.
type work struct {
	Book
	winds [][]int
	told  [MaxHours][Points]heard
	ends  map[heard]trail
	must  func(heard) bool
}

// open returns a book at work, or the error of the book.
func open(b Book) (work, api.Errno) {
	if e := Check(b); e != api.OK {
		return work{}, e
	}
	return atWork(b), api.OK
}

func atWork(b Book) work {
	w := work{Book: b, must: func(heard) bool { return true }}
	for _, reading := range b.Readings {
		w.winds = append(w.winds, those(numbers(Points), point(reading).near))
	}
	for _, c := range b.Cries {
		for wind, houses := range b.Hears[c.Stand] {
			for _, house := range houses {
				w.told[c.Hour][wind][house] |= 1 << c.Notice
			}
		}
	}
	return w
}

// openCourse is open, with the errors of complaints, and those of a course.
func openCourse(b Book, complaints []Complaint, course []int) (work, api.Errno) {
	w, e := openComplaints(b, complaints)
	if e != api.OK {
		return work{}, e
	}
	if len(course) != len(b.Readings) {
		return work{}, api.ErrCount
	}
	if !all(course, isPoint) {
		return work{}, api.ErrRange
	}
	return w, api.OK
}

// openComplaints is open, with the errors of complaints.
func openComplaints(b Book, complaints []Complaint) (work, api.Errno) {
	w, e := open(b)
	if e != api.OK {
		return work{}, e
	}
	if len(complaints) > MaxComplaints {
		return work{}, api.ErrCount
	}
	if !all(complaints, w.isComplaint) {
		return work{}, api.ErrAbsent
	}
	return w, api.OK
}

// openFitting is openComplaints, with the error of a book that no course fits. The courses of the book are followed.
func openFitting(b Book, complaints []Complaint) (work, api.Errno) {
	w, e := openComplaints(b, complaints)
	if e != api.OK {
		return work{}, e
	}
	w = w.followed()
	if !w.possible() {
		return work{}, api.ErrClash
	}
	return w, api.OK
}

// all reports whether something is so for each element of a list.
func all[T any](list []T, is func(T) bool) bool {
	for _, x := range list {
		if !is(x) {
			return false
		}
	}
	return true
}

// those returns the elements of a list for which something is so.
func those[T any](list []T, is func(T) bool) []T {
	var some []T
	for _, x := range list {
		if is(x) {
			some = append(some, x)
		}
	}
	return some
}

// numbers returns those from 0 on.
func numbers(many int) []int {
	var list []int
	for n := range many {
		list = append(list, n)
	}
	return list
}

func least(first int, others ...int) int {
	for _, n := range others {
		first = min(first, n)
	}
	return first
}

func between(n, lo, hi int) bool   { return lo <= n && n <= hi }
func isPoint(n int) bool           { return between(n, 0, Points-1) }
func isReading(n int) bool         { return n == None || isPoint(n) }
func (w work) isHouse(n int) bool  { return between(n, 0, w.Houses-1) }
func (w work) isNotice(n int) bool { return between(n, 0, w.Notices-1) }
func (w work) isStand(n int) bool  { return between(n, 0, len(w.Hears)-1) }
func (w work) isHour(n int) bool   { return between(n, 0, len(w.Readings)-1) }

func (w work) isCry(c Cry) bool {
	return w.isHour(c.Hour) && w.isStand(c.Stand) && w.isNotice(c.Notice)
}

func (w work) isComplaint(c Complaint) bool { return w.isHouse(c.House) && w.isNotice(c.Notice) }

// wrongCounts reports whether there are too many of something, or too few, or not a list for each wind.
func (w work) wrongCounts() bool {
	if !between(w.Houses, 1, MaxHouses) || !between(w.Notices, 1, MaxNotices) || !between(len(w.Hears), 1, MaxStands) {
		return true
	}
	if !between(len(w.Readings), 1, MaxHours) || len(w.Cries) > MaxCries {
		return true
	}
	return !all(w.Hears, func(winds [][]int) bool { return len(winds) == Points })
}

func (w work) hearsError() api.Errno {
	for _, winds := range w.Hears {
		for _, houses := range winds {
			if e := w.housesError(houses); e != api.OK {
				return e
			}
		}
	}
	return api.OK
}

func (w work) housesError(houses []int) api.Errno {
	for i, house := range houses {
		if !w.isHouse(house) {
			return api.ErrAbsent
		}
		if slices.Contains(houses[:i], house) {
			return api.ErrTwice
		}
	}
	return api.OK
}

// read returns a copy of a book with another reading.
func (b Book) read(hour, point int) Book {
	b.Readings, b.Cries = slices.Clone(b.Readings), slices.Clone(b.Cries)
	b.Readings[hour] = point
	b.Hears = slices.Clone(b.Hears)
	for stand, winds := range b.Hears {
		b.Hears[stand] = slices.Clone(winds)
		for wind, houses := range winds {
			b.Hears[stand][wind] = slices.Clone(houses)
		}
	}
	return b
}
