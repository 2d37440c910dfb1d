package book_test

import (
	"math"
	"math/rand"
	"slices"
	"testing"

	"oyez/api"
	"oyez/book"
)

// P7.2

// weather returns a book of which only the readings matter.
func weather(readings ...int) book.Book {
	b := sized(1, 1, 1, 1)
	b.Readings = readings
	return b
}

func TestFits(t *testing.T) {
	for i, x := range []struct {
		b      book.Book
		course []int
		is     bool
		e      api.Errno
	}{
		{bell(), list(1, 2, 3), true, api.OK},
		{bell(), list(2, 3, 4), true, api.OK},
		{bell(), list(0, 1, 2), false, api.OK},
		{bell(), list(3, 3, 3), false, api.OK},
		{bell(), list(1, 3, 3), false, api.OK},
		{bell(), list(3, 2, 3), false, api.OK},
		{bell(), list(2, 1, 3), false, api.OK},
		{shut(), list(1, 2, 3), false, api.OK},
		{bell(), nil, false, api.ErrCount},
		{bell(), list(1, 2), false, api.ErrCount},
		{bell(), list(1, 2, 3, 4), false, api.ErrCount},
		{bell(), list(9, 9), false, api.ErrCount},
		{bell(), list(8, 2, 3), false, api.ErrRange},
		{bell(), list(1, 2, -1), false, api.ErrRange},
		{bell(), list(1, math.MinInt, 3), false, api.ErrRange},
		{weather(none, none, none), list(7, 0, 7), true, api.OK},
		{weather(none, none, none), list(0, 7, 6), true, api.OK},
		{weather(none, none, none), list(6, 0, 0), false, api.OK},
		{weather(none, none, none), list(1, 7, 7), false, api.OK},
		{weather(none, none), list(0, 4), false, api.OK},
		{weather(0), list(7), true, api.OK},
		{weather(0), list(6), false, api.OK},
		{weather(7), list(0), true, api.OK},
		{weather(7), list(1), false, api.OK},
		{weather(3), list(7), false, api.OK},
	} {
		if is, e := book.Fits(x.b, x.course); is != x.is || e != x.e {
			t.Error(i, is, e)
		}
	}
}

// allWinds returns all lists of so many winds.
func allWinds(hours int) [][]int {
	all := lists(nil)
	for range hours {
		var longer [][]int
		for _, course := range all {
			for wind := range book.Points {
				longer = append(longer, append(slices.Clone(course), wind))
			}
		}
		all = longer
	}
	return all
}

func TestFitsOfAllCourses(t *testing.T) {
	someBooks(t, 60, sizes{4, 1 << 30}, func(_ *rand.Rand, b book.Book, all [][]int) {
		many := 0
		for _, course := range allWinds(len(b.Readings)) {
			is, e := book.Fits(b, course)
			if is != isFit(b, course) || e != api.OK {
				t.Error(course, is, e)
			}
			if is {
				many++
			}
		}
		if n, e := book.Count(b); n != many || n != len(all) || e != api.OK {
			t.Error(n, e, many, len(all))
		}
	})
}

func TestFitsOfAnyCourse(t *testing.T) {
	fittingBooks(t, 200, small, func(r *rand.Rand, b book.Book, all [][]int) {
		for range 10 {
			course := slices.Clone(all[r.Intn(len(all))])
			if is, e := book.Fits(b, course); !is || e != api.OK {
				t.Error(course, is, e)
			}
			course[r.Intn(len(course))] = r.Intn(book.Points)
			if is, e := book.Fits(b, course); is != isFit(b, course) || e != api.OK {
				t.Error(course, is, e)
			}
		}
	})
}

func TestCourses(t *testing.T) {
	every := list(0, 1, 2, 3, 4, 5, 6, 7)
	for i, x := range []struct {
		b     book.Book
		many  int
		first []int
		winds [][]int
		e     api.Errno
	}{
		{bell(), 4, list(1, 2, 3), lists(list(1, 2), list(2, 3), list(3, 4)), api.OK},
		{shut(), 0, nil, nil, api.ErrClash},
		{weather(none), 8, list(0), lists(every), api.OK},
		{weather(none, none), 24, list(0, 0), lists(every, every), api.OK},
		{weather(0), 3, list(0), lists(list(0, 1, 7)), api.OK},
		{weather(7), 3, list(0), lists(list(0, 6, 7)), api.OK},
		{weather(5), 3, list(4), lists(list(4, 5, 6)), api.OK},
		{weather(0, 3), 1, list(1, 2), lists(list(1), list(2)), api.OK},
		{weather(5, 0), 1, list(6, 7), lists(list(6), list(7)), api.OK},
		{weather(0, 4), 0, nil, nil, api.ErrClash},
		{weather(0, none, 4), 2, list(1, 2, 3), lists(list(1, 7), list(2, 6), list(3, 5)), api.OK},
	} {
		many, e := book.Count(x.b)
		first, f := book.First(x.b)
		winds, g := book.Winds(x.b)
		if many != x.many || !slices.Equal(first, x.first) || !slices.EqualFunc(winds, x.winds, slices.Equal) || e != api.OK || f != x.e || g != x.e {
			t.Error(i, many, first, winds, e, f, g)
		}
	}
}

// splitOf returns for each wind how many of some courses have it in an hour.
func splitOf(all [][]int, hour int) []int {
	many := make([]int, book.Points)
	for _, course := range all {
		many[course[hour]]++
	}
	return many
}

// windsOf returns for each hour the winds that some courses have.
func windsOf(b book.Book, all [][]int) [][]int {
	winds := make([][]int, len(b.Readings))
	for hour := range winds {
		for wind, many := range splitOf(all, hour) {
			if many > 0 {
				winds[hour] = append(winds[hour], wind)
			}
		}
	}
	return winds
}

func TestSplit(t *testing.T) {
	for i, x := range []struct {
		b    book.Book
		hour int
		want []int
		e    api.Errno
	}{
		{bell(), 0, list(0, 1, 3, 0, 0, 0, 0, 0), api.OK},
		{bell(), 1, list(0, 0, 2, 2, 0, 0, 0, 0), api.OK},
		{bell(), 2, list(0, 0, 0, 3, 1, 0, 0, 0), api.OK},
		{shut(), 0, make([]int, 8), api.OK},
		{weather(none, none), 1, list(3, 3, 3, 3, 3, 3, 3, 3), api.OK},
		{bell(), 3, nil, api.ErrAbsent},
		{bell(), -1, nil, api.ErrAbsent},
		{shut(), 3, nil, api.ErrAbsent},
		{bell(), math.MaxInt, nil, api.ErrAbsent},
		{bell(), math.MinInt, nil, api.ErrAbsent},
	} {
		if got, e := book.Split(x.b, x.hour); !slices.Equal(got, x.want) || e != x.e {
			t.Error(i, got, e)
		}
	}
}

func checkCourses(t *testing.T, b book.Book, all [][]int) {
	t.Helper()
	if many, e := book.Count(b); many != len(all) || e != api.OK {
		t.Error(many, e, len(all))
	}
	for hour := range b.Readings {
		if got, e := book.Split(b, hour); !slices.Equal(got, splitOf(all, hour)) || e != api.OK {
			t.Error(hour, got, e)
		}
	}
	var want []int
	var wantWinds [][]int
	wantError := api.ErrClash
	if len(all) > 0 {
		want, wantWinds, wantError = slices.MinFunc(all, slices.Compare), windsOf(b, all), api.OK
	}
	if got, e := book.First(b); !slices.Equal(got, want) || e != wantError {
		t.Error(got, e, want)
	}
	if got, e := book.Winds(b); !slices.EqualFunc(got, wantWinds, slices.Equal) || e != wantError {
		t.Error(got, e, wantWinds)
	}
}

func TestCoursesOfAnyBook(t *testing.T) {
	var count [3]int
	for _, most := range []sizes{{3, 100}, small, largest} {
		someBooks(t, 300, most, func(_ *rand.Rand, b book.Book, all [][]int) {
			checkCourses(t, b, all)
			count[min(len(all), 2)]++
		})
	}
	if count[0] < 30 || count[1] < 5 || count[2] < 300 {
		t.Error("too few books of a kind:", count)
	}
}

func TestCoursesWhereNothingWasRead(t *testing.T) {
	for hours := range book.MaxHours {
		b := sized(1, 1, 1, hours+1)
		checkCourses(t, b, allCourses(b))
	}
	if many, e := book.Count(sized(6, 4, 4, 8)); many != 17496 || e != api.OK {
		t.Error(many, e)
	}
}
