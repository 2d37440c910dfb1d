package book_test

import (
	"math"
	"math/rand"
	"slices"
	"testing"

	"oyez/api"
	"oyez/book"
)

// P7.4 and P7.5

// late is the book of the examples with the cry of the last hour alone.
func late() book.Book { return changed(func(b *book.Book) { b.Cries = b.Cries[1:] }) }

// checkWitness checks that a course fits, and that complaints are true in it.
func checkWitness(t *testing.T, b book.Book, course []int, complaints ...book.Complaint) {
	t.Helper()
	if len(course) != len(b.Readings) || !isFit(b, course) {
		t.Fatal(course, "does not fit")
	}
	for _, c := range complaints {
		if !isTrue(b, course, c) {
			t.Error(c, "is not true in", course)
		}
	}
}

func TestOneComplaint(t *testing.T) {
	for i, x := range []struct {
		b book.Book
		c book.Complaint
		e api.Errno
	}{
		{bell(), yes(0), api.OK},
		{bell(), no(0), api.OK},
		{bell(), yes(1), api.OK},
		{bell(), no(1), api.ErrNone},
		{late(), yes(0), api.ErrNone},
		{late(), no(0), api.OK},
		{late(), yes(1), api.OK},
		{late(), no(1), api.OK},
		{bell(), yes(2), api.ErrAbsent},
		{bell(), no(-1), api.ErrAbsent},
		{bell(), yes(math.MaxInt), api.ErrAbsent},
		{bell(), book.Complaint{Notice: 1}, api.ErrAbsent},
		{bell(), book.Complaint{Notice: -1, Heard: true}, api.ErrAbsent},
		{bell(), book.Complaint{Notice: math.MinInt}, api.ErrAbsent},
		{shut(), book.Complaint{Notice: 1}, api.ErrAbsent},
		{shut(), yes(0), api.ErrClash},
		{shut(), no(1), api.ErrClash},
	} {
		course, e := book.Witness(x.b, x.c)
		if e != x.e || e != api.OK && len(course) > 0 {
			t.Error(i, course, e)
		}
		if e == api.OK {
			checkWitness(t, x.b, course, x.c)
		}
		want := x.e
		if x.e == api.ErrNone {
			want = api.OK
		}
		if is, f := book.Refuted(x.b, x.c); is != (x.e == api.ErrNone) || f != want {
			t.Error(i, is, f)
		}
	}
	if course, e := book.Witness(bell(), yes(0)); !slices.Equal(course, list(1, 2, 3)) || e != api.OK {
		t.Error(course, e)
	}
}

func TestOneComplaintOfAnyBook(t *testing.T) {
	var count [2]int
	fittingBooks(t, 400, small, func(r *rand.Rand, b book.Book, all [][]int) {
		for range 8 {
			c := someComplaint(r, b)
			can := slices.ContainsFunc(all, func(course []int) bool { return isTrue(b, course, c) })
			course, e := book.Witness(b, c)
			if can {
				checkWitness(t, b, course, c)
				count[0]++
			} else {
				count[1]++
			}
			if can != (e == api.OK) || !can && (e != api.ErrNone || len(course) > 0) {
				t.Error(c, course, e)
			}
			if is, e := book.Refuted(b, c); is == can || e != api.OK {
				t.Error(c, is, e)
			}
		}
	})
	if slices.Min(count[:]) < 300 {
		t.Error("too few complaints of a kind:", count)
	}
}

func TestFalse(t *testing.T) {
	three := pleas(yes(0), no(0), yes(1))
	for i, x := range []struct {
		b          book.Book
		complaints []book.Complaint
		course     []int
		want       []int
		e          api.Errno
	}{
		{bell(), three, list(2, 2, 3), list(0), api.OK},
		{bell(), three, list(1, 2, 3), list(1), api.OK},
		{bell(), three, list(5, 5, 5), list(0, 2), api.OK},
		{shut(), three, list(5, 5, 5), list(0, 2), api.OK},
		{bell(), pleas(no(1), yes(1), no(1)), list(1, 2, 3), list(0, 2), api.OK},
		{bell(), nil, list(5, 5, 5), nil, api.OK},
		{bell(), slices.Repeat(pleas(yes(0)), 8), list(2, 2, 3), list(0, 1, 2, 3, 4, 5, 6, 7), api.OK},
		{bell(), slices.Repeat(pleas(yes(0)), 9), list(2, 2, 3), nil, api.ErrCount},
		{bell(), slices.Repeat(pleas(yes(2)), 9), list(2, 2), nil, api.ErrCount},
		{bell(), pleas(yes(0), yes(2)), list(2, 2), nil, api.ErrAbsent},
		{bell(), pleas(yes(-1)), list(8, 2, 3), nil, api.ErrAbsent},
		{bell(), three, list(5, 5), nil, api.ErrCount},
		{bell(), three, list(5, 5, 5, 5), nil, api.ErrCount},
		{bell(), three, list(5, 5, -1), nil, api.ErrRange},
		{bell(), nil, list(8, 5, 1), nil, api.ErrRange},
	} {
		if got, e := book.False(x.b, x.complaints, x.course); !slices.Equal(got, x.want) || e != x.e {
			t.Error(i, got, e)
		}
	}
}

func TestFalseInAnyCourse(t *testing.T) {
	someBooks(t, 300, small, func(r *rand.Rand, b book.Book, _ [][]int) {
		for range 8 {
			course, complaints := someCourse(r, b), someComplaints(r, b)
			want := elements(wrong(b, course, complaints))
			if got, e := book.False(b, complaints, course); !slices.Equal(got, want) || e != api.OK {
				t.Error(course, complaints, got, e, want)
			}
		}
	})
}

func TestSeveralComplaints(t *testing.T) {
	for i, x := range []struct {
		b                            book.Book
		complaints                   []book.Complaint
		fewest, excluding            []int
		together, excludes, isFewest api.Errno
	}{
		{bell(), pleas(yes(0), yes(1)), nil, nil, api.OK, api.ErrNone, api.OK},
		{bell(), pleas(no(0), yes(1), no(0)), nil, nil, api.OK, api.ErrNone, api.OK},
		{bell(), pleas(yes(0), no(0)), list(0), list(0, 1), api.ErrNone, api.OK, api.OK},
		{bell(), pleas(no(0), yes(0), no(0)), list(1), list(0, 1), api.ErrNone, api.OK, api.OK},
		{bell(), pleas(yes(0), no(0), no(0)), list(0), list(0, 1), api.ErrNone, api.OK, api.OK},
		{bell(), pleas(no(1), yes(0), no(0)), list(0, 1), list(0), api.ErrNone, api.OK, api.OK},
		{bell(), pleas(yes(0), no(0), no(1)), list(0, 2), list(2), api.ErrNone, api.OK, api.OK},
		{bell(), pleas(yes(1), no(1), no(1)), list(1, 2), list(1), api.ErrNone, api.OK, api.OK},
		{bell(), slices.Repeat(pleas(no(1)), 8), list(0, 1, 2, 3, 4, 5, 6, 7), list(0), api.ErrNone, api.OK, api.OK},
		{bell(), nil, nil, nil, api.OK, api.ErrNone, api.OK},
		{late(), pleas(no(0), no(1)), nil, nil, api.OK, api.ErrNone, api.OK},
		{bell(), slices.Repeat(pleas(yes(1)), 8), nil, nil, api.OK, api.ErrNone, api.OK},
		{bell(), slices.Repeat(pleas(yes(1)), 9), nil, nil, api.ErrCount, api.ErrCount, api.ErrCount},
		{shut(), slices.Repeat(pleas(yes(2)), 9), nil, nil, api.ErrCount, api.ErrCount, api.ErrCount},
		{shut(), pleas(yes(0), yes(2)), nil, nil, api.ErrAbsent, api.ErrAbsent, api.ErrAbsent},
		{bell(), pleas(book.Complaint{Notice: 1}), nil, nil, api.ErrAbsent, api.ErrAbsent, api.ErrAbsent},
		{shut(), nil, nil, nil, api.ErrClash, api.ErrClash, api.ErrClash},
		{shut(), pleas(yes(0), no(0)), nil, nil, api.ErrClash, api.ErrClash, api.ErrClash},
	} {
		course, e := book.Together(x.b, x.complaints)
		fewest, f := book.Fewest(x.b, x.complaints)
		excluding, g := book.Excludes(x.b, x.complaints)
		if e != x.together || f != x.isFewest || g != x.excludes || !slices.Equal(fewest, x.fewest) || !slices.Equal(excluding, x.excluding) {
			t.Error(i, course, fewest, excluding, e, f, g)
		}
		if e == api.OK {
			checkWitness(t, x.b, course, x.complaints...)
		} else if len(course) > 0 {
			t.Error(i, course)
		}
	}
}

// triangle is a book in which any two of three houses can have heard the notice, but not all three.
func triangle() book.Book {
	b := sized(3, 1, 1, 1)
	b.Hears = [][][]int{lists(list(0, 1), list(1, 2), list(0, 2), nil, nil, nil, nil, nil)}
	b.Cries = []book.Cry{{}}
	return b
}

// One of three complaints is false, though each two go together.
func TestThreeComplaintsExcludeEachOther(t *testing.T) {
	complaints := pleas(yes(0), yes(1), yes(2))
	fewest, e := book.Fewest(triangle(), complaints)
	excluding, f := book.Excludes(triangle(), complaints)
	if !slices.Equal(fewest, list(0)) || !slices.Equal(excluding, list(0, 1, 2)) || e != api.OK || f != api.OK {
		t.Error(fewest, excluding, e, f)
	}
	for out := range complaints {
		two := slices.Delete(slices.Clone(complaints), out, out+1)
		course, e := book.Together(triangle(), two)
		if e != api.OK {
			t.Error(out, e)
		}
		checkWitness(t, triangle(), course, two...)
	}
}

// The first of the fewest lists is not always one with the first complaint.
func TestWhichComplaintsAreFalse(t *testing.T) {
	for i, x := range []struct {
		complaints        []book.Complaint
		fewest, excluding []int
	}{
		{pleas(yes(0), no(1), yes(1), no(1)), list(2), list(1, 2)},
		{pleas(yes(0), yes(1), no(2), yes(2)), list(3), list(2, 3)},
		{pleas(no(0), no(1), no(2), yes(1), yes(0)), list(0, 1), list(0, 4)},
		{pleas(no(1), no(0), yes(0), yes(1), yes(2)), list(0, 2), list(0, 3)},
		{pleas(yes(2), yes(2), yes(0), yes(1), yes(1)), list(2), list(0, 2, 3)},
	} {
		fewest, e := book.Fewest(triangle(), x.complaints)
		excluding, f := book.Excludes(triangle(), x.complaints)
		if !slices.Equal(fewest, x.fewest) || !slices.Equal(excluding, x.excluding) || e != api.OK || f != api.OK {
			t.Error(i, fewest, excluding, e, f)
		}
	}
}

// fewestOf returns the fewest of so many complaints without which some set of false ones is empty.
func fewestOf(sets []int, many int) []int {
	for _, list := range bySize(many) {
		if slices.ContainsFunc(sets, func(set int) bool { return set&^list == 0 }) {
			return elements(list)
		}
	}
	return nil
}

// excludingOf returns the fewest of so many complaints of which each set of false ones has one.
func excludingOf(sets []int, many int) []int {
	for _, list := range bySize(many) {
		if !slices.ContainsFunc(sets, func(set int) bool { return set&list == 0 }) {
			return elements(list)
		}
	}
	return nil
}

// allHeard changes complaints so that none says that a house has not heard a notice. More of them are needed to exclude each other.
func allHeard(complaints []book.Complaint) {
	for i := range complaints {
		complaints[i].Heard = true
	}
}

func TestSeveralComplaintsOfAnyBook(t *testing.T) {
	var fewest, excluding [4]int
	for _, most := range []sizes{{3, 100}, small} {
		fittingBooks(t, 600, most, func(r *rand.Rand, b book.Book, all [][]int) {
			complaints := someComplaints(r, b)
			if r.Intn(2) == 0 {
				allHeard(complaints)
			}
			sets := wrongs(b, all, complaints)
			few, e := book.Fewest(b, complaints)
			if want := fewestOf(sets, len(complaints)); !slices.Equal(few, want) || e != api.OK {
				t.Error(complaints, few, e, want)
			}
			fewest[min(3, len(few))]++
			course, e := book.Together(b, complaints)
			some, f := book.Excludes(b, complaints)
			if len(few) == 0 {
				checkWitness(t, b, course, complaints...)
				if len(some) > 0 || e != api.OK || f != api.ErrNone {
					t.Error(complaints, some, e, f)
				}
				return
			}
			if want := excludingOf(sets, len(complaints)); !slices.Equal(some, want) || len(course) > 0 || e != api.ErrNone || f != api.OK {
				t.Error(complaints, some, course, e, f, want)
			}
			excluding[min(3, len(some))]++
		})
	}
	if slices.Min(fewest[:]) < 50 || min(excluding[1], excluding[2]) < 50 {
		t.Error("too few complaints of a kind:", fewest, excluding)
	}
}

// Where most houses hear the stand in each wind, but not all, several complaints are needed to exclude each other.
func TestComplaintsOfACrowd(t *testing.T) {
	var count [book.MaxComplaints + 1]int
	r := rand.New(rand.NewSource(72))
	for range 300 {
		b := sized(book.MaxHouses, 1, 1, 1)
		b.Hears, b.Cries = someHears(r, b.Houses, 1, 4+r.Intn(3)), []book.Cry{{}}
		var complaints []book.Complaint
		for _, house := range append(r.Perm(b.Houses), r.Intn(b.Houses), r.Intn(b.Houses)) {
			complaints = append(complaints, yes(house))
		}
		sets := wrongs(b, allCourses(b), complaints)
		want, wantError := excludingOf(sets, len(complaints)), api.OK
		if want == nil {
			wantError = api.ErrNone
		}
		if some, e := book.Excludes(b, complaints); !slices.Equal(some, want) || e != wantError {
			t.Error(b, complaints, some, e, want)
		}
		want = fewestOf(sets, len(complaints))
		if few, e := book.Fewest(b, complaints); !slices.Equal(few, want) || e != api.OK {
			t.Error(b, complaints, few, e, want)
		}
		count[len(excludingOf(sets, len(complaints)))]++
	}
	if min(count[0], count[2], count[3], count[4]) < 10 {
		t.Error("too few complaints of a kind:", count)
	}
}

// In the largest books there are thousands of courses.
func TestSeveralComplaintsOfLargeBooks(t *testing.T) {
	r := rand.New(rand.NewSource(71))
	for range 10 {
		b := sized(book.MaxHouses, book.MaxNotices, book.MaxStands, book.MaxHours)
		b.Hears = someHears(r, b.Houses, book.MaxStands, 2)
		for hour := range book.MaxCries {
			b.Cries = append(b.Cries, book.Cry{Hour: hour % book.MaxHours, Stand: r.Intn(book.MaxStands), Notice: r.Intn(book.MaxNotices)})
		}
		var complaints []book.Complaint
		for range book.MaxComplaints {
			complaints = append(complaints, someComplaint(r, b))
		}
		sets := wrongs(b, allCourses(b), complaints)
		few, e := book.Fewest(b, complaints)
		some, f := book.Excludes(b, complaints)
		want, wantError := excludingOf(sets, len(complaints)), api.OK
		if want == nil {
			wantError = api.ErrNone
		}
		if !slices.Equal(few, fewestOf(sets, len(complaints))) || !slices.Equal(some, want) || e != api.OK || f != wantError {
			t.Error(complaints, few, some, want, e, f)
		}
	}
}
