package book_test

import (
	"fmt"
	"math"
	"reflect"
	"slices"
	"testing"

	"oyez/api"
	"oyez/book"
)

// fault makes something in the arguments wrong.
type fault struct {
	e  api.Errno
	do func(*args)
}

// faultsOfCounts are so that the ones that come first leave no others.
func faultsOfCounts() []fault {
	return []fault{
		{api.ErrCount, func(x *args) { x.b.Houses = 0 }},
		{api.ErrCount, func(x *args) { x.b.Houses = 7 }},
		{api.ErrCount, func(x *args) { x.b.Notices = 0 }},
		{api.ErrCount, func(x *args) { x.b.Notices = 5 }},
		{api.ErrCount, func(x *args) { x.b.Hears = nil }},
		{api.ErrCount, func(x *args) { x.b.Hears = slices.Repeat(bell().Hears, 5) }},
		{api.ErrCount, func(x *args) { x.b.Readings = nil }},
		{api.ErrCount, func(x *args) { x.b.Readings = make([]int, 9) }},
		{api.ErrCount, func(x *args) { x.b.Cries = slices.Repeat(bell().Cries[:1], 13) }},
		{api.ErrCount, func(x *args) { x.b.Hears[0] = nil }},
		{api.ErrCount, func(x *args) { x.b.Hears[0] = x.b.Hears[0][:7] }},
		{api.ErrCount, func(x *args) { x.b.Hears[1] = make([][]int, 9) }},
	}
}

// faultsOfBook are in the order of the chapter's table.
func faultsOfBook() []fault {
	return slices.Concat(faultsOfCounts(), []fault{
		{api.ErrAbsent, func(x *args) { x.b.Hears[0][0] = list(0, 2, 0) }},
		{api.ErrTwice, func(x *args) { x.b.Hears[0][0] = list(0, 1, 0, 2) }},
		{api.ErrTwice, func(x *args) { x.b.Hears[0][1] = list(1, 1) }},
		{api.ErrAbsent, func(x *args) { x.b.Hears[0][1] = list(-1, -1) }},
		{api.ErrAbsent, func(x *args) { x.b.Hears[0][7] = list(math.MaxInt) }},
		{api.ErrTwice, func(x *args) { x.b.Hears[1][0] = list(0, 0) }},
		{api.ErrAbsent, func(x *args) { x.b.Hears[1][7] = list(1, math.MinInt) }},
		{api.ErrRange, func(x *args) { x.b.Readings[0] = 8 }},
		{api.ErrRange, func(x *args) { x.b.Readings[1] = -2 }},
		{api.ErrRange, func(x *args) { x.b.Readings[2] = math.MaxInt }},
		{api.ErrAbsent, func(x *args) { x.b.Cries[0].Hour = 3 }},
		{api.ErrAbsent, func(x *args) { x.b.Cries[1].Hour = -1 }},
		{api.ErrAbsent, func(x *args) { x.b.Cries[0].Stand = 2 }},
		{api.ErrAbsent, func(x *args) { x.b.Cries[1].Stand = math.MinInt }},
		{api.ErrAbsent, func(x *args) { x.b.Cries[0].Notice = 1 }},
		{api.ErrAbsent, func(x *args) { x.b.Cries[1].Notice = -1 }},
	})
}

func faultsOfHour() []fault {
	var all []fault
	for _, hour := range list(-1, 3, math.MinInt, math.MaxInt) {
		all = append(all, fault{api.ErrAbsent, func(x *args) { x.hour = hour }})
	}
	return all
}

func faultsOfPoint() []fault {
	var all []fault
	for _, point := range list(-2, 8, math.MinInt, math.MaxInt) {
		all = append(all, fault{api.ErrRange, func(x *args) { x.point = point }})
	}
	return all
}

func faultsOfCourse() []fault {
	return []fault{
		{api.ErrCount, func(x *args) { x.course = nil }},
		{api.ErrCount, func(x *args) { x.course = list(9, 9) }},
		{api.ErrCount, func(x *args) { x.course = list(1, 2, 3, 4) }},
		{api.ErrRange, func(x *args) { x.course[0] = 8 }},
		{api.ErrRange, func(x *args) { x.course[1] = -1 }},
		{api.ErrRange, func(x *args) { x.course[2] = math.MinInt }},
	}
}

func absent() []book.Complaint {
	return []book.Complaint{
		{House: 2},
		{House: -1, Heard: true},
		{House: math.MaxInt, Notice: math.MinInt},
		{Notice: 1, Heard: true},
		{Notice: -1},
	}
}

func faultsOfComplaint() []fault {
	var all []fault
	for _, c := range absent() {
		all = append(all, fault{api.ErrAbsent, func(x *args) { x.c = c }})
	}
	return all
}

func faultsOfComplaints() []fault {
	all := []fault{{api.ErrCount, func(x *args) { x.complaints = append(x.complaints, make([]book.Complaint, 9)...) }}}
	for i, c := range absent() {
		all = append(all, fault{api.ErrAbsent, func(x *args) { x.complaints[i%2] = c }})
	}
	return all
}

func faultsOfAgain() []fault {
	return slices.Concat([]fault{
		{api.ErrAbsent, func(x *args) { x.notice = -1 }},
		{api.ErrAbsent, func(x *args) { x.notice = 1 }},
		{api.ErrAbsent, func(x *args) { x.notice = math.MinInt }},
	}, faultsOfHour(), []fault{
		{api.ErrAbsent, func(x *args) { x.houses = list(0, 2, 0) }},
		{api.ErrTwice, func(x *args) { x.houses = list(1, 0, 1, 2) }},
		{api.ErrAbsent, func(x *args) { x.houses = list(-1, -1) }},
		{api.ErrTwice, func(x *args) { x.houses = list(0, 0, math.MinInt) }},
	})
}

func clash() []fault {
	return []fault{{api.ErrClash, func(x *args) { x.b.Readings[1] = 0 }}}
}

// faults returns what can be wrong in a call, in the order of the chapter's table of errors.
func faults(name string) []fault {
	of := faultsOfBook()
	switch name {
	case "Check", "Count":
		return of
	case "Read":
		return slices.Concat(of, faultsOfHour(), faultsOfPoint())
	case "Split":
		return slices.Concat(of, faultsOfHour())
	case "Fits", "Heard":
		return slices.Concat(of, faultsOfCourse())
	case "Witness":
		return slices.Concat(of, faultsOfComplaint(), clash(), []fault{{api.ErrNone, func(x *args) { x.c = no(1) }}})
	case "Refuted":
		return slices.Concat(of, faultsOfComplaint(), clash())
	case "False":
		return slices.Concat(of, faultsOfComplaints(), faultsOfCourse())
	case "Together":
		return slices.Concat(of, faultsOfComplaints(), clash(), []fault{{api.ErrNone, func(x *args) { x.complaints = pleas(yes(0), no(0)) }}})
	case "Fewest":
		return slices.Concat(of, faultsOfComplaints(), clash())
	case "Excludes":
		return slices.Concat(of, faultsOfComplaints(), clash(), []fault{{api.ErrNone, func(x *args) { x.complaints = pleas(yes(0), yes(1)) }}})
	case "Again":
		return slices.Concat(of, faultsOfAgain(), clash(), []fault{{api.ErrNone, func(x *args) { x.hour = 1 }}})
	}
	return slices.Concat(of, clash())
}

// expect checks the error of a call with faults of which the last one decides, and that there is no result beside it.
func expect(t *testing.T, c call, what string, faults ...fault) {
	t.Helper()
	x := good(c.name)
	for _, f := range faults {
		f.do(&x)
	}
	result, e := c.do(x)
	if want := faults[len(faults)-1].e; e != want || !zero(result) {
		t.Errorf("%s with %s: %v, error %d, want %d", c.name, what, result, e, want)
	}
}

func TestEachErrorAlone(t *testing.T) {
	for _, c := range calls() {
		if _, e := c.do(good(c.name)); e != api.OK {
			t.Errorf("%s of what is right: error %d", c.name, e)
		}
		for i, f := range faults(c.name) {
			expect(t, c, fmt.Sprint("fault ", i), f)
		}
	}
}

func TestOrderOfErrors(t *testing.T) {
	for _, c := range calls() {
		all := faults(c.name)
		for i := range all {
			for j := i + 1; j < len(all); j++ {
				expect(t, c, fmt.Sprintf("faults %d and %d", i, j), all[j], all[i])
			}
			later := slices.Clone(all[i:])
			slices.Reverse(later)
			expect(t, c, fmt.Sprintf("fault %d and all later ones", i), later...)
		}
	}
}

// oddBooks returns some of all kinds, most of them wrong.
func oddBooks() []book.Book {
	all := []book.Book{bell(), tower(), shut(), triangle(), sized(6, 4, 4, 8), sized(7, 5, 5, 9), sized(0, 0, 0, 0), sized(1, 1, 1, 1), {}, {Houses: 1, Notices: 1}, {Houses: 1, Notices: 1, Hears: make([][][]int, 1), Readings: list(none)}}
	for _, n := range list(math.MinInt, -2, -1, 0, 2, 3, 7, 8, 63, 64, math.MaxInt) {
		for _, change := range []func(*book.Book){
			func(b *book.Book) { b.Houses = n },
			func(b *book.Book) { b.Notices = n },
			func(b *book.Book) { b.Hears[0][1] = list(n) },
			func(b *book.Book) { b.Hears[1][7] = list(n, n) },
			func(b *book.Book) { b.Readings[0] = n },
			func(b *book.Book) { b.Readings = list(n, n, n) },
			func(b *book.Book) { b.Cries[0] = book.Cry{Hour: n, Stand: n, Notice: n} },
			func(b *book.Book) { b.Cries[1].Hour = n },
			func(b *book.Book) { b.Cries[1].Stand = n },
			func(b *book.Book) { b.Cries[1].Notice = n },
		} {
			b := tower()
			change(&b)
			all = append(all, b)
		}
	}
	return all
}

func TestNothingPanics(t *testing.T) {
	numbers := list(math.MinInt, -1, 0, 1, 7, 8, 64, math.MaxInt)
	for _, b := range oddBooks() {
		for _, n := range numbers {
			for _, m := range numbers {
				c := book.Complaint{House: n, Notice: m}
				x := args{b, n, m, m, list(n, m, n), list(m, n), c, pleas(c, yes(n), no(m))}
				for _, c := range calls() {
					if result, e := c.do(x); e != api.OK && !zero(result) {
						t.Errorf("%s of %v: %v beside error %d", c.name, x, result, e)
					}
				}
			}
		}
	}
}

func TestLongListsEnd(t *testing.T) {
	long := slices.Repeat(list(0, 1), 1<<15)
	for _, c := range calls() {
		for e, changes := range map[api.Errno][]func(*args){
			api.ErrCount: {
				func(x *args) { x.b.Hears = make([][][]int, len(long)) },
				func(x *args) { x.b.Hears[1] = make([][]int, len(long)) },
				func(x *args) { x.b.Readings = long },
				func(x *args) { x.b.Cries = make([]book.Cry, len(long)) },
			},
			api.ErrTwice: {func(x *args) { x.b.Hears[1][7] = long }},
		} {
			for _, change := range changes {
				x := good(c.name)
				change(&x)
				if result, f := c.do(x); e != f || !zero(result) {
					t.Errorf("%s: %v beside error %d", c.name, result, f)
				}
			}
		}
		x := good(c.name)
		x.course, x.houses, x.complaints = long, long, make([]book.Complaint, len(long))
		want := map[string]api.Errno{"Fits": api.ErrCount, "Heard": api.ErrCount, "False": api.ErrCount, "Together": api.ErrCount, "Fewest": api.ErrCount, "Excludes": api.ErrCount, "Again": api.ErrTwice}[c.name]
		if result, e := c.do(x); e != want {
			t.Errorf("%s: %v, error %d", c.name, result, e)
		}
	}
}

// sameCall checks that a call of two arguments comes to the same.
func sameCall(t *testing.T, c call, x, y args) {
	t.Helper()
	r, e := c.do(x)
	o, f := c.do(y)
	if e != f || fmt.Sprint(r) != fmt.Sprint(o) {
		t.Errorf("%s: %v, error %d; %v, error %d", c.name, r, e, o, f)
	}
}

func TestEmptyListsAreTheSame(t *testing.T) {
	for _, c := range calls() {
		for _, change := range []func(none, empty *args){
			func(none, empty *args) { none.b.Hears, empty.b.Hears = nil, [][][]int{} },
			func(none, empty *args) { none.b.Hears[0], empty.b.Hears[0] = nil, lists() },
			func(none, empty *args) { none.b.Hears[0][1], empty.b.Hears[0][1] = nil, list() },
			func(none, empty *args) { none.b.Hears[1][7], empty.b.Hears[1][7] = nil, list() },
			func(none, empty *args) { none.b.Readings, empty.b.Readings = nil, list() },
			func(none, empty *args) { none.b.Cries, empty.b.Cries = nil, []book.Cry{} },
			func(none, empty *args) { none.course, empty.course = nil, list() },
			func(none, empty *args) { none.houses, empty.houses = nil, list() },
			func(none, empty *args) { none.complaints, empty.complaints = nil, pleas() },
		} {
			none, empty := good(c.name), good(c.name)
			change(&none, &empty)
			sameCall(t, c, none, empty)
		}
	}
}

// memory returns all lists that a value has, or that are in its lists.
func memory(v reflect.Value) []reflect.Value {
	var all []reflect.Value
	switch v.Kind() {
	case reflect.Interface:
		return memory(v.Elem())
	case reflect.Slice:
		all = append(all, v)
		for i := range v.Len() {
			all = append(all, memory(v.Index(i))...)
		}
	case reflect.Struct:
		for i := range v.NumField() {
			all = append(all, memory(v.Field(i))...)
		}
	}
	return all
}

// meets reports whether two lists share memory, up to what lies behind their ends.
func meets(a, b reflect.Value) bool {
	from, to := a.Pointer(), a.Pointer()+uintptr(a.Cap())*a.Type().Elem().Size()
	start, end := b.Pointer(), b.Pointer()+uintptr(b.Cap())*b.Type().Elem().Size()
	return a.Cap() > 0 && b.Cap() > 0 && from < end && start < to
}

func TestResultsShareNoMemory(t *testing.T) {
	for _, c := range calls() {
		twice := good(c.name)
		twice.b.Hears = slices.Repeat(bell().Hears, 2)
		twice.b.Hears[0][3] = twice.b.Hears[0][2]
		for _, x := range []args{good(c.name), twice} {
			result, _ := c.do(x)
			again, _ := c.do(x)
			given := slices.Concat(memory(reflect.ValueOf(x)), memory(reflect.ValueOf(again)))
			var told []reflect.Value
			for _, r := range result {
				told = append(told, memory(reflect.ValueOf(r))...)
			}
			for i, a := range told {
				for _, b := range slices.Concat(given, told[i+1:]) {
					if meets(a, b) {
						t.Errorf("%s: %v shares memory with %v", c.name, a, b)
					}
				}
			}
		}
	}
}

// withEnd returns a list with something behind its end, which is not the function's.
func withEnd[T any](l []T, end T) []T { return append(slices.Clone(l), end)[:len(l)] }

func roomy(x args) args {
	for _, winds := range x.b.Hears {
		for wind, houses := range winds {
			winds[wind] = withEnd(houses, 77)
		}
	}
	for stand, winds := range x.b.Hears {
		x.b.Hears[stand] = withEnd(winds, list(77))
	}
	x.b.Hears, x.b.Readings = withEnd(x.b.Hears, lists(list(77))), withEnd(x.b.Readings, 77)
	x.b.Cries = withEnd(x.b.Cries, book.Cry{Hour: 77})
	x.course, x.houses, x.complaints = withEnd(x.course, 77), withEnd(x.houses, 77), withEnd(x.complaints, yes(77))
	return x
}

// behind returns lists with what lies behind their ends.
func behind(x args) string {
	said := fmt.Sprint(x.b.Hears[:len(x.b.Hears)+1], x.b.Cries[:len(x.b.Cries)+1], x.complaints[:len(x.complaints)+1])
	for _, l := range slices.Concat(slices.Concat(x.b.Hears...), lists(x.b.Readings, x.course, x.houses)) {
		said += fmt.Sprint(l[:len(l)+1])
	}
	for _, winds := range x.b.Hears {
		said += fmt.Sprint(winds[:len(winds)+1])
	}
	return said
}

func TestArgumentsStay(t *testing.T) {
	for _, c := range calls() {
		x := roomy(good(c.name))
		before, ends := x.clone(), behind(x)
		r, e := c.do(x)
		if !reflect.DeepEqual(x, before) || behind(x) != ends {
			t.Errorf("%s changed its arguments: %v, were %v", c.name, x, before)
		}
		if o, f := c.do(x); e != f || fmt.Sprint(r) != fmt.Sprint(o) {
			t.Errorf("%s: %v, and then %v", c.name, r, o)
		}
	}
}

func TestNothingIsKept(t *testing.T) {
	other := good("")
	other.b, other.hour, other.course, other.houses = triangle(), 0, list(2), list(2, 0)
	other.c, other.complaints = yes(2), pleas(yes(2), yes(1), yes(0))
	for _, c := range calls() {
		r, e := c.do(good(c.name))
		for _, d := range calls() {
			d.do(other)
		}
		if o, f := c.do(good(c.name)); e != f || fmt.Sprint(r) != fmt.Sprint(o) {
			t.Errorf("%s: %v, error %d, and then %v, error %d", c.name, r, e, o, f)
		}
	}
}
