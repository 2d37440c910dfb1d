package book_test

import (
	"math"
	"math/rand"
	"slices"
	"testing"

	"oyez/api"
	"oyez/book"
)

// P7.1

func TestBooksThatAreRight(t *testing.T) {
	for i, b := range []book.Book{
		bell(),
		tower(),
		shut(),
		sized(1, 1, 1, 1),
		sized(6, 4, 4, 8),
		changed(func(b *book.Book) { b.Cries = nil }),
		changed(func(b *book.Book) { b.Cries = make([]book.Cry, 12) }),
		changed(func(b *book.Book) { b.Readings = list(0, 7, none) }),
		changed(func(b *book.Book) { b.Hears[0][7] = list(1, 0) }),
		changed(func(b *book.Book) {
			b.Houses, b.Notices, b.Hears[0][0], b.Cries[1].Notice = 6, 4, list(5, 3, 0, 1, 2, 4), 3
		}),
	} {
		if e := book.Check(b); e != api.OK {
			t.Error(i, e)
		}
	}
}

func TestBooksThatAreWrong(t *testing.T) {
	for i, x := range []struct {
		b book.Book
		e api.Errno
	}{
		{book.Book{}, api.ErrCount},
		{sized(0, 1, 1, 1), api.ErrCount},
		{sized(7, 1, 1, 1), api.ErrCount},
		{sized(1, 0, 1, 1), api.ErrCount},
		{sized(1, 5, 1, 1), api.ErrCount},
		{sized(1, 1, 0, 1), api.ErrCount},
		{sized(1, 1, 5, 1), api.ErrCount},
		{sized(1, 1, 1, 0), api.ErrCount},
		{sized(1, 1, 1, 9), api.ErrCount},
		{sized(math.MinInt, 1, 1, 1), api.ErrCount},
		{sized(1, math.MaxInt, 1, 1), api.ErrCount},
		{changed(func(b *book.Book) { b.Cries = make([]book.Cry, 13) }), api.ErrCount},
		{changed(func(b *book.Book) { b.Hears[0] = b.Hears[0][:7] }), api.ErrCount},
		{changed(func(b *book.Book) { b.Hears[0] = append(b.Hears[0], nil) }), api.ErrCount},
		{changed(func(b *book.Book) { b.Hears = append(b.Hears, nil) }), api.ErrCount},
		{changed(func(b *book.Book) { b.Hears, b.Hears[0][0] = append(b.Hears, nil), list(2) }), api.ErrCount},
		{changed(func(b *book.Book) { b.Hears[0][0] = list(2) }), api.ErrAbsent},
		{changed(func(b *book.Book) { b.Hears[0][7] = list(0, -1) }), api.ErrAbsent},
		{changed(func(b *book.Book) { b.Hears[0][7] = list(math.MaxInt, math.MinInt) }), api.ErrAbsent},
		{changed(func(b *book.Book) { b.Hears[0][7] = list(0, 2, 0) }), api.ErrAbsent},
		{changed(func(b *book.Book) { b.Hears[0][7] = list(2, 2) }), api.ErrAbsent},
		{changed(func(b *book.Book) { b.Hears[0][7] = list(0, 0) }), api.ErrTwice},
		{changed(func(b *book.Book) { b.Hears[0][7] = list(0, 1, 0, 2) }), api.ErrTwice},
		{changed(func(b *book.Book) { b.Hears[0][0], b.Hears[0][1] = list(1, 1), list(2) }), api.ErrTwice},
		{changed(func(b *book.Book) { b.Hears[0][0], b.Hears[0][1] = list(2), list(1, 1) }), api.ErrAbsent},
		{changed(func(b *book.Book) { b.Readings[1] = 8 }), api.ErrRange},
		{changed(func(b *book.Book) { b.Readings[2] = -2 }), api.ErrRange},
		{changed(func(b *book.Book) { b.Readings[0] = math.MinInt }), api.ErrRange},
		{changed(func(b *book.Book) { b.Readings[2], b.Cries[0].Hour = 8, 3 }), api.ErrRange},
		{changed(func(b *book.Book) { b.Cries[0].Hour = 3 }), api.ErrAbsent},
		{changed(func(b *book.Book) { b.Cries[1].Hour = -1 }), api.ErrAbsent},
		{changed(func(b *book.Book) { b.Cries[0].Stand = 1 }), api.ErrAbsent},
		{changed(func(b *book.Book) { b.Cries[1].Stand = math.MinInt }), api.ErrAbsent},
		{changed(func(b *book.Book) { b.Cries[0].Notice = 1 }), api.ErrAbsent},
		{changed(func(b *book.Book) { b.Cries[1].Notice = -1 }), api.ErrAbsent},
	} {
		if e := book.Check(x.b); e != x.e {
			t.Error(i, e)
		}
	}
}

// The lists of a stand come before those of the next one.
func TestTheFirstListThatIsWrongDecides(t *testing.T) {
	for _, x := range []struct {
		first, second []int
		e             api.Errno
	}{{list(2), list(0, 0), api.ErrAbsent}, {list(0, 0), list(2), api.ErrTwice}} {
		b := tower()
		b.Hears[0][7], b.Hears[1][0] = x.first, x.second
		if e := book.Check(b); e != x.e {
			t.Error(x, e)
		}
	}
}

func TestRead(t *testing.T) {
	for i, x := range []struct {
		hour, point int
		e           api.Errno
	}{
		{0, 0, api.OK},
		{1, 7, api.OK},
		{2, none, api.OK},
		{2, 4, api.OK},
		{3, 1, api.ErrAbsent},
		{-1, 1, api.ErrAbsent},
		{3, 8, api.ErrAbsent},
		{math.MaxInt, math.MinInt, api.ErrAbsent},
		{0, 8, api.ErrRange},
		{1, -2, api.ErrRange},
		{2, math.MaxInt, api.ErrRange},
		{2, math.MinInt, api.ErrRange},
	} {
		got, e := book.Read(bell(), x.hour, x.point)
		if e != x.e || e != api.OK && !zero([]any{got}) {
			t.Error(i, got, e)
		}
		if e == api.OK && !same(got, read(bell(), x.hour, x.point)) {
			t.Error(i, got)
		}
	}
}

// A book that no course fits may be read on.
func TestReadWhereNoCourseFits(t *testing.T) {
	if b, e := book.Read(shut(), 1, none); !same(b, bell()) || e != api.OK {
		t.Error(b, e)
	}
	if b, e := book.Read(bell(), 1, 0); !same(b, shut()) || e != api.OK {
		t.Error(b, e)
	}
}

func TestReadOfAnyBook(t *testing.T) {
	someBooks(t, 200, small, func(r *rand.Rand, b book.Book, _ [][]int) {
		for hour := range b.Readings {
			point := r.Intn(book.Points+1) - 1
			if got, e := book.Read(b, hour, point); !same(got, read(b, hour, point)) || e != api.OK {
				t.Error(hour, point, got, e)
			}
		}
	})
}

// A book may have the same list twice; Read tells both.
func TestReadOfABookWithListsThatAreShared(t *testing.T) {
	b := bell()
	b.Hears = slices.Repeat(b.Hears, book.MaxStands)
	if got, e := book.Read(b, 0, 2); !same(got, read(b, 0, 2)) || e != api.OK {
		t.Error(got, e)
	}
}
