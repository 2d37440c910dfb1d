package book_test

import (
	"math/rand"
	"slices"
	"testing"

	"oyez/api"
	"oyez/book"
)

// P7.7 and P0.8

func sum(list ...int) int {
	n := 0
	for _, x := range list {
		n += x
	}
	return n
}

// hears reports what Heard tells of a house and a notice in a course.
func hears(b book.Book, course []int, house, notice int) bool {
	told, e := book.Heard(b, course)
	return e == api.OK && slices.Contains(told[house], notice)
}

func TestVerdictsAreShown(t *testing.T) {
	count := map[book.Verdict]int{}
	fittingBooks(t, 300, largest, func(_ *rand.Rand, b book.Book, _ [][]int) {
		verdicts, e := book.Verdicts(b)
		if e != api.OK {
			t.Fatal(e)
		}
		for house, told := range verdicts {
			for notice, v := range told {
				for _, heard := range []bool{false, true} {
					c := book.Complaint{House: house, Notice: notice, Heard: heard}
					course, e := book.Witness(b, c)
					refuted, f := book.Refuted(b, c)
					want := heard && v == book.Never || !heard && v == book.Surely
					if refuted != want || f != api.OK || (e == api.ErrNone) != want {
						t.Error(c, v, course, refuted, e, f)
					}
					if e != api.OK {
						continue
					}
					fits, e := book.Fits(b, course)
					if !fits || hears(b, course, house, notice) != heard || e != api.OK {
						t.Error(c, course, fits, e)
					}
				}
				count[v]++
			}
		}
	})
	if min(count[book.Perhaps], count[book.Surely], count[book.Never]) < 100 {
		t.Error("too few verdicts of a kind:", count)
	}
}

func TestTheFirstCourseFitsAndHasThoseWinds(t *testing.T) {
	fittingBooks(t, 300, largest, func(_ *rand.Rand, b book.Book, _ [][]int) {
		course, e := book.First(b)
		winds, f := book.Winds(b)
		if is, g := book.Fits(b, course); !is || e != api.OK || f != api.OK || g != api.OK {
			t.Error(course, winds, is, e, f, g)
		}
		for hour, wind := range course {
			if !slices.Contains(winds[hour], wind) {
				t.Error(hour, wind, winds)
			}
		}
		if course[0] != winds[0][0] {
			t.Error(course, winds)
		}
	})
}

func TestAReadingMore(t *testing.T) {
	var less, clashes, settled int
	fittingBooks(t, 300, small, func(r *rand.Rand, b book.Book, _ [][]int) {
		many, _ := book.Count(b)
		before, _ := book.Verdicts(b)
		for hour, reading := range b.Readings {
			if reading != none {
				continue
			}
			more, e := book.Read(b, hour, r.Intn(book.Points))
			n, f := book.Count(more)
			if n > many || e != api.OK || f != api.OK {
				t.Error(hour, n, many, e, f)
			}
			if n < many {
				less++
			}
			after, e := book.Verdicts(more)
			if n == 0 {
				clashes++
				if e != api.ErrClash {
					t.Error(e)
				}
				continue
			}
			for house, told := range before {
				for notice, v := range told {
					if v != book.Perhaps && after[house][notice] != v {
						t.Error(hour, house, notice, v, after[house][notice])
					}
					if v != after[house][notice] {
						settled++
					}
				}
			}
		}
	})
	if min(less, clashes, settled) < 30 {
		t.Error("too few readings of a kind:", less, clashes, settled)
	}
}

func TestTheCoursesOfAnHourAreAll(t *testing.T) {
	someBooks(t, 300, largest, func(_ *rand.Rand, b book.Book, _ [][]int) {
		many, e := book.Count(b)
		for hour := range b.Readings {
			split, f := book.Split(b, hour)
			if len(split) != book.Points || sum(split...) != many || e != api.OK || f != api.OK {
				t.Error(hour, split, many, e, f)
			}
		}
	})
}

func TestACryMore(t *testing.T) {
	more := 0
	fittingBooks(t, 300, small, func(r *rand.Rand, b book.Book, _ [][]int) {
		if len(b.Cries) == book.MaxCries {
			return
		}
		before, _ := book.Verdicts(b)
		cry := book.Cry{Hour: r.Intn(len(b.Readings)), Stand: r.Intn(len(b.Hears)), Notice: r.Intn(b.Notices)}
		after, e := book.Verdicts(cried(b, cry))
		if e != api.OK {
			t.Fatal(cry, e)
		}
		for house, told := range before {
			for notice, v := range told {
				now := after[house][notice]
				if v == book.Surely && now != v || v == book.Perhaps && now == book.Never || notice != cry.Notice && now != v {
					t.Error(cry, house, notice, v, now)
				}
				if v != now {
					more++
				}
			}
		}
	})
	if more < 100 {
		t.Error("too few cries that change something:", more)
	}
}

func TestComplaintsAmongWhichSomeExcludeEachOther(t *testing.T) {
	var excluding, refuted int
	fittingBooks(t, 500, small, func(r *rand.Rand, b book.Book, _ [][]int) {
		complaints := someComplaints(r, b)
		few, e := book.Fewest(b, complaints)
		some, f := book.Excludes(b, complaints)
		if e != api.OK || f != api.OK && f != api.ErrNone || (f == api.ErrNone) != (len(few) == 0) {
			t.Error(few, some, e, f)
		}
		many := 0
		for _, c := range complaints {
			if is, _ := book.Refuted(b, c); is {
				many++
			}
		}
		if len(few) < many {
			t.Error(complaints, few, many)
		}
		refuted += many
		var others []book.Complaint
		for i, c := range complaints {
			if !slices.Contains(few, i) {
				others = append(others, c)
			}
		}
		if _, e := book.Together(b, others); e != api.OK {
			t.Error(complaints, few, e)
		}
		if f != api.OK {
			return
		}
		excluding++
		var list []book.Complaint
		for _, i := range some {
			list = append(list, complaints[i])
		}
		for _, l := range [][]book.Complaint{list, complaints, append(list, someComplaint(r, b))} {
			if len(l) > book.MaxComplaints {
				continue
			}
			if _, e := book.Together(b, l); e != api.ErrNone {
				t.Error(complaints, some, l, e)
			}
		}
	})
	if excluding < 100 || refuted < 100 {
		t.Error("too few complaints of a kind:", excluding, refuted)
	}
}

// What is cried once more at those stands is surely heard.
func TestWhatIsCriedAgainIsHeard(t *testing.T) {
	more := 0
	fittingBooks(t, 300, small, func(r *rand.Rand, b book.Book, _ [][]int) {
		notice, hour, houses := r.Intn(b.Notices), r.Intn(len(b.Readings)), r.Perm(b.Houses)[:1]
		stands, e := book.Again(b, notice, hour, houses)
		if e != api.OK || len(stands)+len(b.Cries) > book.MaxCries {
			return
		}
		for _, stand := range stands {
			b = cried(b, book.Cry{Hour: hour, Stand: stand, Notice: notice})
			more++
		}
		verdicts, e := book.Verdicts(b)
		if e != api.OK || verdicts[houses[0]][notice] != book.Surely {
			t.Error(notice, hour, houses, stands, verdicts, e)
		}
	})
	if more < 20 {
		t.Error("too few stands:", more)
	}
}
