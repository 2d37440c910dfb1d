package book_test

import (
	"cmp"
	"math/bits"
	"math/rand"
	"reflect"
	"slices"
	"testing"

	"oyez/api"
	"oyez/book"
)

// The tests call exported functions only, and hold their results against what this file finds out by going through all courses.

const none = book.None

func list(n ...int) []int { return n }

func lists(l ...[]int) [][]int { return l }

func pleas(c ...book.Complaint) []book.Complaint { return c }

// yes and no say that a house has heard the notice 0, or that it has not.
func yes(house int) book.Complaint { return book.Complaint{House: house, Heard: true} }
func no(house int) book.Complaint  { return book.Complaint{House: house} }

// bell is the book of the examples.
func bell() book.Book {
	return book.Book{
		Houses:   2,
		Notices:  1,
		Hears:    [][][]int{lists(list(0), list(0, 1), list(1), list(1), nil, nil, nil, nil)},
		Readings: list(1, none, 4),
		Cries:    []book.Cry{{Hour: 0}, {Hour: 2}},
	}
}

// changed returns the book of the examples with something else in it.
func changed(do func(*book.Book)) book.Book {
	b := bell()
	do(&b)
	return b
}

// shut is the book of the examples with a reading more, so that no course fits.
func shut() book.Book { return changed(func(b *book.Book) { b.Readings[1] = 0 }) }

// tower is the book of the examples with a second stand, which house 0 hears in the wind 2.
func tower() book.Book {
	return changed(func(b *book.Book) {
		b.Hears = append(b.Hears, lists(nil, nil, list(0), nil, nil, nil, nil, nil))
	})
}

// sized returns a book of so many, in which nothing was read or cried, and nobody hears anything.
func sized(houses, notices, stands, hours int) book.Book {
	return book.Book{
		Houses:   houses,
		Notices:  notices,
		Hears:    slices.Repeat([][][]int{make([][]int, book.Points)}, stands),
		Readings: slices.Repeat(list(none), hours),
	}
}

// clone returns a book that shares no memory with another one.
func clone(b book.Book) book.Book {
	b.Readings, b.Cries, b.Hears = slices.Clone(b.Readings), slices.Clone(b.Cries), slices.Clone(b.Hears)
	for stand := range b.Hears {
		b.Hears[stand] = slices.Clone(b.Hears[stand])
		for wind := range b.Hears[stand] {
			b.Hears[stand][wind] = slices.Clone(b.Hears[stand][wind])
		}
	}
	return b
}

// same reports whether two books are, where a list that is nil is one without elements.
func same(a, b book.Book) bool {
	sameStand := func(s, t [][]int) bool { return slices.EqualFunc(s, t, slices.Equal) }
	return a.Houses == b.Houses && a.Notices == b.Notices && slices.EqualFunc(a.Hears, b.Hears, sameStand) &&
		slices.Equal(a.Readings, b.Readings) && slices.Equal(a.Cries, b.Cries)
}

func read(b book.Book, hour, point int) book.Book {
	b = clone(b)
	b.Readings[hour] = point
	return b
}

// cried returns a book with further cries.
func cried(b book.Book, cries ...book.Cry) book.Book {
	b = clone(b)
	b.Cries = append(b.Cries, cries...)
	return b
}

// beside reports whether points are the same, or lie side by side.
func beside(a, b int) bool {
	turn := max(a-b, b-a)
	return turn < 2 || turn == 7
}

// mayFollow reports whether a wind can come after the beginning of a course.
func mayFollow(b book.Book, course []int, wind int) bool {
	hour := len(course)
	if hour > 0 && !beside(course[hour-1], wind) {
		return false
	}
	return b.Readings[hour] == none || beside(b.Readings[hour], wind)
}

func isFit(b book.Book, course []int) bool {
	for hour, wind := range course {
		if !mayFollow(b, course[:hour], wind) {
			return false
		}
	}
	return true
}

// allCourses returns all courses that fit, in any order.
func allCourses(b book.Book) [][]int {
	all := lists(nil)
	for range b.Readings {
		longer := make([][]int, 0, 3*len(all)+8)
		for _, course := range all {
			for wind := 7; wind >= 0; wind-- {
				if mayFollow(b, course, wind) {
					longer = append(longer, slices.Concat(course, list(wind)))
				}
			}
		}
		all = longer
	}
	return all
}

// hasHeard reports whether a house has heard a notice in a course.
func hasHeard(b book.Book, course []int, house, notice int) bool {
	return slices.ContainsFunc(b.Cries, func(c book.Cry) bool {
		return c.Notice == notice && slices.Contains(b.Hears[c.Stand][course[c.Hour]], house)
	})
}

func isTrue(b book.Book, course []int, c book.Complaint) bool {
	return hasHeard(b, course, c.House, c.Notice) == c.Heard
}

// wrong returns the set of the complaints that are not true in a course.
func wrong(b book.Book, course []int, complaints []book.Complaint) int {
	set := 0
	for i, c := range complaints {
		if !isTrue(b, course, c) {
			set |= 1 << i
		}
	}
	return set
}

// wrongs returns the sets of the complaints that are not true, of all courses.
func wrongs(b book.Book, all [][]int, complaints []book.Complaint) []int {
	var sets []int
	for _, course := range all {
		sets = append(sets, wrong(b, course, complaints))
	}
	slices.Sort(sets)
	return slices.Compact(sets)
}

// elements returns those of a set.
func elements(set int) []int {
	var l []int
	for n := 0; set>>n > 0; n++ {
		if set>>n&1 == 1 {
			l = append(l, n)
		}
	}
	return l
}

// bySize returns all sets of the numbers below another one, smaller ones first, then those whose lists come first.
func bySize(below int) []int {
	var sets []int
	for set := range 1 << below {
		sets = append(sets, set)
	}
	slices.SortFunc(sets, func(a, b int) int {
		return cmp.Or(bits.OnesCount(uint(a))-bits.OnesCount(uint(b)), slices.Compare(elements(a), elements(b)))
	})
	return sets
}

// isVerdict returns what all courses say of a house and a notice.
func isVerdict(b book.Book, all [][]int, house, notice int) book.Verdict {
	n := 0
	for _, course := range all {
		if hasHeard(b, course, house, notice) {
			n++
		}
	}
	switch n {
	case 0:
		return book.Never
	case len(all):
		return book.Surely
	}
	return book.Perhaps
}

// sizes is how many hours books have at most, and how many courses fit them at most.
type sizes struct{ hours, courses int }

var (
	small   = sizes{book.MaxHours, 300}
	largest = sizes{book.MaxHours, 1 << 30}
)

// up returns a number from 1 to n, a greater one more often.
func up(r *rand.Rand, n int) int { return 1 + max(r.Intn(n), r.Intn(n)) }

// someHears returns who hears stands, of 8 times so often.
func someHears(r *rand.Rand, houses, stands, often int) [][][]int {
	var hears [][][]int
	for range stands {
		winds := make([][]int, book.Points)
		for wind := range winds {
			for _, house := range r.Perm(houses) {
				if r.Intn(8) < often {
					winds[wind] = append(winds[wind], house)
				}
			}
		}
		hears = append(hears, winds)
	}
	return hears
}

// someReadings returns readings of a wind that turns, of which so many of 8 are known. Now and then one of them is wrong.
func someReadings(r *rand.Rand, hours, known int) []int {
	var readings []int
	wind := r.Intn(8)
	for range hours {
		wind = (wind + r.Intn(3) + 7) % 8
		point := (wind + r.Intn(3) + 7) % 8
		if r.Intn(12) == 0 {
			point = r.Intn(8)
		}
		if r.Intn(8) >= known {
			point = none
		}
		readings = append(readings, point)
	}
	return readings
}

func someBook(r *rand.Rand, most sizes) book.Book {
	for {
		b := book.Book{Houses: up(r, book.MaxHouses), Notices: up(r, book.MaxNotices)}
		stands := up(r, book.MaxStands)
		b.Hears = someHears(r, b.Houses, stands, 1+r.Intn(6))
		b.Readings = someReadings(r, up(r, most.hours), r.Intn(11))
		for range r.Intn(book.MaxCries + 1) {
			b.Cries = append(b.Cries, book.Cry{Hour: r.Intn(len(b.Readings)), Stand: r.Intn(stands), Notice: r.Intn(b.Notices)})
		}
		if len(allCourses(b)) <= most.courses {
			return b
		}
	}
}

// someBooks calls a function with books and all their courses, always the same ones.
func someBooks(t *testing.T, n int, most sizes, check func(r *rand.Rand, b book.Book, all [][]int)) {
	t.Helper()
	r := rand.New(rand.NewSource(7))
	for range n {
		b := someBook(r, most)
		check(r, b, allCourses(b))
		if t.Failed() {
			t.Fatalf("at the book %+v", b)
		}
	}
}

// fittingBooks is someBooks, with those that some course fits.
func fittingBooks(t *testing.T, n int, most sizes, check func(r *rand.Rand, b book.Book, all [][]int)) {
	t.Helper()
	someBooks(t, n, most, func(r *rand.Rand, b book.Book, all [][]int) {
		if len(all) > 0 {
			check(r, b, all)
		}
	})
}

func someCourse(r *rand.Rand, b book.Book) []int {
	var course []int
	for range b.Readings {
		course = append(course, r.Intn(book.Points))
	}
	return course
}

func someComplaint(r *rand.Rand, b book.Book) book.Complaint {
	return book.Complaint{House: r.Intn(b.Houses), Notice: r.Intn(b.Notices), Heard: r.Intn(2) == 0}
}

func someComplaints(r *rand.Rand, b book.Book) []book.Complaint {
	var complaints []book.Complaint
	for range r.Intn(book.MaxComplaints + 1) {
		complaints = append(complaints, someComplaint(r, b))
	}
	return complaints
}

// args are what a call is given; each call takes what it needs of them.
type args struct {
	b                   book.Book
	hour, point, notice int
	course, houses      []int
	c                   book.Complaint
	complaints          []book.Complaint
}

// good returns arguments with which a call is right.
func good(name string) args {
	x := args{tower(), 0, 1, 0, list(1, 2, 3), list(0, 1), yes(0), pleas(yes(0), yes(1))}
	if name == "Excludes" {
		x.complaints = append(x.complaints, no(0))
	}
	return x
}

func (x args) clone() args {
	x.b = clone(x.b)
	x.course, x.houses, x.complaints = slices.Clone(x.course), slices.Clone(x.houses), slices.Clone(x.complaints)
	return x
}

// call is one of the functions, with its results beside the error.
type call struct {
	name string
	do   func(args) ([]any, api.Errno)
}

func one[T any](v T, e api.Errno) ([]any, api.Errno) { return []any{v}, e }

func calls() []call {
	return []call{
		{"Check", func(x args) ([]any, api.Errno) { return nil, book.Check(x.b) }},
		{"Read", func(x args) ([]any, api.Errno) { return one(book.Read(x.b, x.hour, x.point)) }},
		{"Fits", func(x args) ([]any, api.Errno) { return one(book.Fits(x.b, x.course)) }},
		{"Count", func(x args) ([]any, api.Errno) { return one(book.Count(x.b)) }},
		{"First", func(x args) ([]any, api.Errno) { return one(book.First(x.b)) }},
		{"Winds", func(x args) ([]any, api.Errno) { return one(book.Winds(x.b)) }},
		{"Heard", func(x args) ([]any, api.Errno) { return one(book.Heard(x.b, x.course)) }},
		{"Verdicts", func(x args) ([]any, api.Errno) { return one(book.Verdicts(x.b)) }},
		{"Witness", func(x args) ([]any, api.Errno) { return one(book.Witness(x.b, x.c)) }},
		{"Refuted", func(x args) ([]any, api.Errno) { return one(book.Refuted(x.b, x.c)) }},
		{"False", func(x args) ([]any, api.Errno) { return one(book.False(x.b, x.complaints, x.course)) }},
		{"Together", func(x args) ([]any, api.Errno) { return one(book.Together(x.b, x.complaints)) }},
		{"Fewest", func(x args) ([]any, api.Errno) { return one(book.Fewest(x.b, x.complaints)) }},
		{"Excludes", func(x args) ([]any, api.Errno) { return one(book.Excludes(x.b, x.complaints)) }},
		{"Split", func(x args) ([]any, api.Errno) { return one(book.Split(x.b, x.hour)) }},
		{"Again", func(x args) ([]any, api.Errno) { return one(book.Again(x.b, x.notice, x.hour, x.houses)) }},
	}
}

// zero reports whether all results are; a list without elements is zero, too.
func zero(results []any) bool {
	for _, r := range results {
		v := reflect.ValueOf(r)
		if !v.IsZero() && !(v.Kind() == reflect.Slice && v.Len() == 0) {
			return false
		}
	}
	return true
}
