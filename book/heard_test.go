package book_test

import (
	"math/rand"
	"slices"
	"testing"

	"oyez/api"
	"oyez/book"
)

// P7.3

func TestHeard(t *testing.T) {
	two := changed(func(b *book.Book) {
		b.Notices = 3
		b.Cries = []book.Cry{{Hour: 2, Notice: 2}, {Hour: 0}, {Hour: 0, Notice: 2}, {Hour: 2, Notice: 2}}
	})
	for i, x := range []struct {
		b      book.Book
		course []int
		want   [][]int
		e      api.Errno
	}{
		{bell(), list(1, 2, 3), lists(list(0), list(0)), api.OK},
		{bell(), list(2, 2, 3), lists(nil, list(0)), api.OK},
		{bell(), list(0, 7, 0), lists(list(0), nil), api.OK},
		{bell(), list(5, 1, 5), lists(nil, nil), api.OK},
		{bell(), list(0, 4, 2), lists(list(0), list(0)), api.OK},
		{shut(), list(1, 2, 3), lists(list(0), list(0)), api.OK},
		{two, list(1, 1, 1), lists(list(0, 2), list(0, 2)), api.OK},
		{two, list(5, 1, 2), lists(nil, list(2)), api.OK},
		{two, list(0, 1, 5), lists(list(0, 2), nil), api.OK},
		{tower(), list(2, 2, 2), lists(nil, list(0)), api.OK},
		{cried(tower(), book.Cry{Hour: 1, Stand: 1}), list(2, 2, 2), lists(list(0), list(0)), api.OK},
		{bell(), list(5, 5), nil, api.ErrCount},
		{bell(), list(5, 5, 5, 5), nil, api.ErrCount},
		{bell(), nil, nil, api.ErrCount},
		{bell(), list(5, 5, 8), nil, api.ErrRange},
		{bell(), list(-1, 5, 5), nil, api.ErrRange},
	} {
		if got, e := book.Heard(x.b, x.course); !slices.EqualFunc(got, x.want, slices.Equal) || e != x.e {
			t.Error(i, got, e)
		}
	}
}

// noticesOf returns the notices that each house has heard in a course.
func noticesOf(b book.Book, course []int) [][]int {
	told := make([][]int, b.Houses)
	for house := range told {
		for notice := range b.Notices {
			if hasHeard(b, course, house, notice) {
				told[house] = append(told[house], notice)
			}
		}
	}
	return told
}

func TestHeardInAnyCourse(t *testing.T) {
	var heard, not int
	someBooks(t, 300, small, func(r *rand.Rand, b book.Book, _ [][]int) {
		for range 20 {
			course := someCourse(r, b)
			got, e := book.Heard(b, course)
			if !slices.EqualFunc(got, noticesOf(b, course), slices.Equal) || e != api.OK {
				t.Error(course, got, e)
			}
			for _, notices := range got {
				heard += len(notices)
				not += b.Notices - len(notices)
			}
		}
	})
	if heard < 2000 || not < 2000 {
		t.Error("too few of a kind:", heard, not)
	}
}

func verdicts(rows ...[]book.Verdict) [][]book.Verdict { return rows }

func row(v ...book.Verdict) []book.Verdict { return v }

func TestVerdicts(t *testing.T) {
	const p, s, n = book.Perhaps, book.Surely, book.Never
	for i, x := range []struct {
		b    book.Book
		want [][]book.Verdict
		e    api.Errno
	}{
		{bell(), verdicts(row(p), row(s)), api.OK},
		{changed(func(b *book.Book) { b.Cries = b.Cries[:1] }), verdicts(row(p), row(s)), api.OK},
		{changed(func(b *book.Book) { b.Cries = b.Cries[1:] }), verdicts(row(n), row(p)), api.OK},
		{changed(func(b *book.Book) { b.Cries = nil }), verdicts(row(n), row(n)), api.OK},
		{changed(func(b *book.Book) { b.Readings[2] = none }), verdicts(row(p), row(p)), api.OK},
		{changed(func(b *book.Book) { b.Notices, b.Cries[0].Notice = 3, 2 }), verdicts(row(n, n, p), row(p, n, s)), api.OK},
		// the wind is not known in either hour, but it is heard in one of both, whatever it was
		{changed(func(b *book.Book) {
			b.Houses, b.Readings = 1, list(none, none)
			b.Hears = [][][]int{
				lists(list(0), list(0), list(0), list(0), list(0), nil, nil, nil),
				lists(list(0), nil, nil, nil, list(0), list(0), list(0), list(0)),
			}
			b.Cries = []book.Cry{{Hour: 0, Stand: 0}, {Hour: 1, Stand: 1}}
		}), verdicts(row(s)), api.OK},
		{sized(1, 1, 1, 1), verdicts(row(n)), api.OK},
		{shut(), nil, api.ErrClash},
	} {
		got, e := book.Verdicts(x.b)
		if !slices.EqualFunc(got, x.want, slices.Equal) || e != x.e {
			t.Error(i, got, e)
		}
	}
}

func TestVerdictsOfAnyBook(t *testing.T) {
	count := map[book.Verdict]int{}
	for many, most := range map[int]sizes{400: small, 20: largest} {
		fittingBooks(t, many, most, func(_ *rand.Rand, b book.Book, all [][]int) {
			got, e := book.Verdicts(b)
			if len(got) != b.Houses || e != api.OK {
				t.Fatal(got, e)
			}
			for house, told := range got {
				if len(told) != b.Notices {
					t.Fatal(house, told)
				}
				for notice, v := range told {
					if want := isVerdict(b, all, house, notice); v != want {
						t.Error(house, notice, v, want)
					}
					count[v]++
				}
			}
		})
	}
	if min(count[book.Perhaps], count[book.Surely], count[book.Never]) < 200 {
		t.Error("too few verdicts of a kind:", count)
	}
}
