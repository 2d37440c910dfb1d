package book_test

import (
	"math"
	"math/rand"
	"slices"
	"testing"

	"oyez/api"
	"oyez/book"
)

// P7.6

func TestAgain(t *testing.T) {
	late := changed(func(b *book.Book) { b.Cries = b.Cries[1:] })
	full := changed(func(b *book.Book) { b.Cries = slices.Repeat(b.Cries[1:], book.MaxCries) })
	for i, x := range []struct {
		b            book.Book
		notice, hour int
		houses       []int
		want         []int
		e            api.Errno
	}{
		{bell(), 0, 1, list(0), nil, api.ErrNone},
		{bell(), 0, 0, list(0), nil, api.ErrNone},
		{bell(), 0, 1, list(1), nil, api.OK},
		{bell(), 0, 1, list(0, 1), nil, api.ErrNone},
		{bell(), 0, 0, nil, nil, api.OK},
		{tower(), 0, 0, list(0), list(1), api.OK},
		{tower(), 0, 0, list(1, 0), list(1), api.OK},
		{tower(), 0, 1, list(0), nil, api.ErrNone},
		{tower(), 0, 2, list(0), nil, api.ErrNone},
		{tower(), 0, 2, list(1), nil, api.OK},
		{late, 0, 0, list(1), list(0), api.OK},
		{late, 0, 1, list(1), list(0), api.OK},
		{late, 0, 2, list(1), nil, api.ErrNone},
		{full, 0, 0, list(1), list(0), api.OK},
		{bell(), 1, 0, list(2), nil, api.ErrAbsent},
		{bell(), -1, 0, list(0, 0), nil, api.ErrAbsent},
		{bell(), 0, 3, list(0, 0), nil, api.ErrAbsent},
		{bell(), 0, -1, list(0), nil, api.ErrAbsent},
		{bell(), math.MinInt, math.MaxInt, nil, nil, api.ErrAbsent},
		{bell(), 0, 0, list(2), nil, api.ErrAbsent},
		{bell(), 0, 0, list(-1), nil, api.ErrAbsent},
		{bell(), 0, 0, list(0, 2, 0), nil, api.ErrAbsent},
		{bell(), 0, 0, list(2, 2), nil, api.ErrAbsent},
		{bell(), 0, 0, list(0, 0, 2), nil, api.ErrTwice},
		{bell(), 0, 0, list(0, 1, 0), nil, api.ErrTwice},
		{shut(), 0, 0, list(0, 0), nil, api.ErrTwice},
		{shut(), 0, 0, list(0, 2), nil, api.ErrAbsent},
		{shut(), 0, 0, list(0), nil, api.ErrClash},
		{shut(), 0, 0, nil, nil, api.ErrClash},
	} {
		if got, e := book.Again(x.b, x.notice, x.hour, x.houses); !slices.Equal(got, x.want) || e != x.e {
			t.Error(i, got, e)
		}
	}
}

// far returns a book of an hour with stands each of which some houses hear in all winds.
func far(houses int, stands ...[]int) book.Book {
	b := sized(houses, 1, 1, 1)
	b.Hears = nil
	for _, heard := range stands {
		b.Hears = append(b.Hears, slices.Repeat(lists(heard), book.Points))
	}
	return b
}

func TestWhichStandsAreFewest(t *testing.T) {
	for i, x := range []struct {
		b      book.Book
		houses []int
		want   []int
		e      api.Errno
	}{
		{far(3, list(0), list(1), list(2), list(0, 1)), list(0, 1, 2), list(2, 3), api.OK},
		{far(3, list(0, 1), list(1, 2), list(2), list(0, 2)), list(2, 1, 0), list(0, 1), api.OK},
		{far(3, list(0), list(1), list(2), list(0, 1, 2)), list(0, 1, 2), list(3), api.OK},
		{far(3, list(0), list(1), list(2), list(0, 1)), list(2), list(2), api.OK},
		{far(4, list(0), list(1), list(2), list(3)), list(0, 1, 2, 3), list(0, 1, 2, 3), api.OK},
		{far(4, list(0), list(1), list(2), list(0)), list(0, 2, 1), list(0, 1, 2), api.OK},
		{far(4, list(1, 2), list(1), list(2), list(0)), list(0, 2, 1), list(0, 3), api.OK},
		{far(4, list(0), list(1), list(2), list(0)), list(0, 1, 2, 3), nil, api.ErrNone},
		{far(1, nil, nil, nil, nil), list(0), nil, api.ErrNone},
		{far(1, nil, nil, nil, nil), nil, nil, api.OK},
	} {
		if got, e := book.Again(x.b, 0, 0, x.houses); !slices.Equal(got, x.want) || e != x.e {
			t.Error(i, got, e)
		}
	}
}

// What was cried before can be enough in those winds in which no cry more is heard.
func TestCriesBeforeAndAgain(t *testing.T) {
	b := sized(1, 2, 2, 2)
	b.Hears = [][][]int{
		lists(list(0), list(0), list(0), list(0), list(0), nil, nil, nil),
		lists(list(0), nil, nil, nil, list(0), list(0), list(0), list(0)),
	}
	b.Cries = []book.Cry{{Hour: 0, Stand: 0, Notice: 1}}
	if got, e := book.Again(b, 1, 1, list(0)); !slices.Equal(got, list(1)) || e != api.OK {
		t.Error(got, e)
	}
	// the cry of another notice does not help
	if got, e := book.Again(b, 0, 1, list(0)); !slices.Equal(got, list(0, 1)) || e != api.OK {
		t.Error(got, e)
	}
}

// againOf returns the fewest stands so that some houses have heard a notice in all courses, and whether there are any.
func againOf(b book.Book, all [][]int, notice, hour int, houses []int) ([]int, bool) {
	for _, set := range bySize(len(b.Hears)) {
		var cries []book.Cry
		for _, stand := range elements(set) {
			cries = append(cries, book.Cry{Hour: hour, Stand: stand, Notice: notice})
		}
		more := cried(b, cries...)
		if !slices.ContainsFunc(houses, func(house int) bool { return isVerdict(more, all, house, notice) != book.Surely }) {
			return elements(set), true
		}
	}
	return nil, false
}

func TestAgainOfAnyBook(t *testing.T) {
	var count [5]int
	none := 0
	for many, most := range map[int]sizes{500: {3, 100}, 300: small, 5: largest} {
		fittingBooks(t, many, most, func(r *rand.Rand, b book.Book, all [][]int) {
			for range 4 {
				notice, hour, houses := r.Intn(b.Notices), r.Intn(len(b.Readings)), r.Perm(b.Houses)[:r.Intn(b.Houses+1)]
				want, enough := againOf(b, all, notice, hour, houses)
				got, e := book.Again(b, notice, hour, houses)
				if !slices.Equal(got, want) || (e == api.OK) != enough || !enough && e != api.ErrNone {
					t.Error(notice, hour, houses, got, e, want)
				}
				if enough {
					count[len(want)]++
				} else {
					none++
				}
			}
		})
	}
	if none < 200 || min(count[0], count[1]) < 200 || count[2] < 30 {
		t.Error("too few books of a kind:", count, none)
	}
}
