package news_test

import (
	"fmt"
	"math"
	"reflect"
	"slices"
	"testing"

	"oyez/api"
	"oyez/news"
)

// fault makes something in the arguments wrong.
type fault struct {
	e  api.Errno
	do func(*args)
}

func faultsOfCounts() []fault {
	return []fault{
		{api.ErrCount, func(x *args) { x.n.Houses = 0 }},
		{api.ErrCount, func(x *args) { x.n.Houses = 11 }},
		{api.ErrCount, func(x *args) { x.n.Houses = math.MinInt }},
		{api.ErrCount, func(x *args) { x.n.Houses = math.MaxInt }},
		{api.ErrCount, func(x *args) { x.n.Links = make([][2]int, 16) }},
		{api.ErrCount, func(x *args) { x.n.Notices = nil }},
		{api.ErrCount, func(x *args) { x.n.Notices = make([]news.Notice, 9) }},
		{api.ErrCount, func(x *args) { x.n.Stands = nil }},
		{api.ErrCount, func(x *args) { x.n.Stands = make([][]int, 7) }},
	}
}

// faultsOfNews are in the order of the chapter's table.
func faultsOfNews() []fault {
	return slices.Concat(faultsOfCounts(), []fault{
		{api.ErrAbsent, func(x *args) { x.n.Links[0] = [2]int{-1, 0} }},
		{api.ErrAbsent, func(x *args) { x.n.Links[1] = [2]int{0, 4} }},
		{api.ErrAbsent, func(x *args) { x.n.Links[2] = [2]int{7, 7} }},
		{api.ErrAbsent, func(x *args) { x.n.Links[0], x.n.Links[2] = [2]int{4, 0}, [2]int{1, 1} }},
		{api.ErrFalse, func(x *args) { x.n.Links[2] = [2]int{3, 3} }},
		{api.ErrFalse, func(x *args) { x.n.Links[0], x.n.Links[1] = [2]int{0, 0}, [2]int{0, 0} }},
		{api.ErrTwice, func(x *args) { x.n.Links[2] = [2]int{0, 1} }},
		{api.ErrTwice, func(x *args) { x.n.Links[0] = [2]int{2, 1} }},
		{api.ErrAbsent, func(x *args) { x.n.Notices[1].After = 1 }},
		{api.ErrAbsent, func(x *args) { x.n.Notices[1].After = -2 }},
		{api.ErrAbsent, func(x *args) { x.n.Notices[0].After = 0 }},
		{api.ErrAbsent, func(x *args) { x.n.Notices[0].After = 1 }},
		{api.ErrAbsent, func(x *args) { x.n.Notices = after(-1, 0, 0, 4, 3) }},
		{api.ErrTwice, func(x *args) { x.n.Notices = after(-1, 0, 1, -1, 1) }},
		{api.ErrAbsent, func(x *args) { x.n.Stands[0] = list(4) }},
		{api.ErrAbsent, func(x *args) { x.n.Stands[1] = list(0, -1, 0) }},
		{api.ErrAbsent, func(x *args) { x.n.Stands = [][]int{{1, 0}, {9}} }},
		{api.ErrOrder, func(x *args) { x.n.Stands[1] = list(3, 0) }},
		{api.ErrOrder, func(x *args) { x.n.Stands[0] = list(0, 1, 1) }},
	})
}

func faultsOfCries() []fault {
	return []fault{
		{api.ErrCount, func(x *args) { x.cries = make([]news.Cry, 17) }},
		{api.ErrCount, func(x *args) { x.cries = slices.Repeat(cries(cry(9, 9)), 17) }},
		{api.ErrAbsent, func(x *args) { x.cries = cries(cry(0, 0), cry(2, 0)) }},
		{api.ErrAbsent, func(x *args) { x.cries = cries(cry(-1, 0)) }},
		{api.ErrAbsent, func(x *args) { x.cries = cries(cry(0, 2), cry(0, 0)) }},
		{api.ErrAbsent, func(x *args) { x.cries = cries(cry(0, -1)) }},
	}
}

func faultsOfEvenings() []fault {
	var all []fault
	for _, n := range list(-1, 13, math.MinInt, math.MaxInt) {
		all = append(all, fault{api.ErrRange, func(x *args) { x.evenings = n }})
	}
	return all
}

func faultsOfHouse() []fault {
	return []fault{
		{api.ErrAbsent, func(x *args) { x.house = -1 }},
		{api.ErrAbsent, func(x *args) { x.house = 4 }},
	}
}

func faultsOfNotice() []fault {
	return []fault{
		{api.ErrAbsent, func(x *args) { x.notice = -1 }},
		{api.ErrAbsent, func(x *args) { x.notice = 2 }},
	}
}

func faultsOfCry() []fault {
	return []fault{
		{api.ErrAbsent, func(x *args) { x.cry = cry(2, 0) }},
		{api.ErrAbsent, func(x *args) { x.cry = cry(-1, 0) }},
		{api.ErrAbsent, func(x *args) { x.cry = cry(0, 2) }},
		{api.ErrAbsent, func(x *args) { x.cry = cry(0, -1) }},
	}
}

func faultsOfStands() []fault {
	return []fault{
		{api.ErrAbsent, func(x *args) { x.stands = list(-1) }},
		{api.ErrAbsent, func(x *args) { x.stands = list(0, 2) }},
		{api.ErrAbsent, func(x *args) { x.stands = list(0, 0, 2) }},
		{api.ErrTwice, func(x *args) { x.stands = list(0, 0) }},
		{api.ErrTwice, func(x *args) { x.stands = list(1, 0, 1) }},
	}
}

// faults returns what can be wrong in a call, in the order of the chapter's table of errors.
func faults(name string) []fault {
	of := faultsOfNews()
	withCries := slices.Concat(of, faultsOfCries())
	withEvenings := slices.Concat(withCries, faultsOfEvenings())
	switch name {
	case "Check", "Force":
		return of
	case "Chain":
		return slices.Concat(of, faultsOfNotice())
	case "Heard":
		return slices.Concat(withCries, faultsOfHouse())
	case "Holds":
		return slices.Concat(withEvenings, faultsOfHouse())
	case "Path":
		none := fault{api.ErrNone, func(x *args) { x.house = 1 }}
		return slices.Concat(withCries, faultsOfHouse(), faultsOfNotice(), []fault{none})
	case "Passes":
		return slices.Concat(withCries, faultsOfNotice())
	case "Settles":
		return withCries
	case "Clear":
		return slices.Concat(withCries, []fault{{api.ErrNone, func(x *args) { x.cries = cries(cry(0, 1)) }}})
	case "Mends":
		return slices.Concat(withEvenings, faultsOfCry())
	case "Stuck", "Apart":
		return slices.Concat(withEvenings, faultsOfStands())
	case "Fewest":
		return slices.Concat(withEvenings, faultsOfStands(), []fault{{api.ErrNone, func(x *args) { x.stands = nil }}})
	}
	return withEvenings
}

// expect checks the error of a call with faults of which the last one decides, and that there is no result beside it.
func expect(t *testing.T, c call, what string, faults ...fault) {
	t.Helper()
	x := good()
	for _, f := range faults {
		f.do(&x)
	}
	result, e := c.do(x)
	if want := faults[len(faults)-1].e; e != want || !zero(result) {
		t.Errorf("%s with %s: %v, error %d, want %d", c.name, what, result, e, want)
	}
}

func TestEachErrorAlone(t *testing.T) {
	for _, c := range calls() {
		if _, e := c.do(good()); e != api.OK {
			t.Errorf("%s of what is right: error %d", c.name, e)
		}
		for i, f := range faults(c.name) {
			expect(t, c, fmt.Sprint("fault ", i), f)
		}
	}
}

func TestOrderOfErrors(t *testing.T) {
	for _, c := range calls() {
		all := faults(c.name)
		for i := range all {
			for j := i + 1; j < len(all); j++ {
				expect(t, c, fmt.Sprintf("faults %d and %d", i, j), all[j], all[i])
			}
			later := slices.Clone(all[i:])
			slices.Reverse(later)
			expect(t, c, fmt.Sprintf("fault %d and all later ones", i), later...)
		}
	}
}

// oddNews returns some of all kinds, most of them wrong.
func oddNews() []news.News {
	wide, _ := widest()
	all := []news.News{row(), wide, {}, {Houses: 1}, {Houses: 1, Notices: after(-1)}, {Houses: 1, Notices: after(-1), Stands: [][]int{nil}},
		{Houses: -1, Notices: after(-1), Stands: [][]int{nil}}, {Notices: make([]news.Notice, 2), Stands: make([][]int, 2), Houses: 2}}
	for _, n := range list(math.MinInt, -2, -1, 0, 3, 9, 10, math.MaxInt) {
		for _, change := range []func(*news.News){
			func(x *news.News) { x.Houses = n },
			func(x *news.News) { x.Links[1] = [2]int{n, n} },
			func(x *news.News) { x.Links[1] = [2]int{n, 0} },
			func(x *news.News) { x.Notices[1].After = n },
			func(x *news.News) { x.Notices[0].After = n },
			func(x *news.News) { x.Stands[1] = list(0, n) },
			func(x *news.News) { x.Stands[0] = list(n, n) },
		} {
			x := row()
			change(&x)
			all = append(all, x)
		}
	}
	return all
}

func TestNothingPanics(t *testing.T) {
	numbers := list(math.MinInt, -1, 0, 1, 2, 5, 12, 13, math.MaxInt)
	for _, n := range oddNews() {
		for _, a := range numbers {
			for _, b := range numbers {
				for _, given := range [][]news.Cry{nil, cries(cry(0, 0)), cries(cry(a, b), cry(b, a))} {
					x := args{n, given, a, b, b, list(a, b, a), cry(a, b), list(b, a)}
					for _, c := range calls() {
						if result, e := c.do(x); e != api.OK && !zero(result) {
							t.Errorf("%s of %v: %v beside error %d", c.name, x, result, e)
						}
					}
				}
			}
		}
	}
}

func TestLongListsEnd(t *testing.T) {
	long := slices.Repeat(list(0, 1), 1<<12)
	for _, c := range calls() {
		for _, change := range []func(*args){
			func(x *args) { x.n.Links = make([][2]int, 1<<16) },
			func(x *args) { x.n.Notices = make([]news.Notice, 1<<16) },
			func(x *args) { x.n.Stands = slices.Repeat([][]int{long}, 1<<10) },
			func(x *args) { x.n.Stands[0] = long },
			func(x *args) { x.cries = make([]news.Cry, 1<<16) },
		} {
			x := good()
			change(&x)
			if result, e := c.do(x); e != api.OK && !zero(result) {
				t.Errorf("%s: %v beside error %d", c.name, result, e)
			}
		}
		x := good()
		x.path, x.stands = long, long
		want := map[string]api.Errno{"Stuck": api.ErrTwice, "Fewest": api.ErrTwice, "Apart": api.ErrTwice}[c.name]
		if result, e := c.do(x); e != want || c.name == "Passes" && result != false {
			t.Errorf("%s: %v, error %d", c.name, result, e)
		}
	}
}

// sameCall checks that a call of two arguments comes to the same.
func sameCall(t *testing.T, c call, x, y args) {
	t.Helper()
	r, e := c.do(x)
	s, f := c.do(y)
	if e != f || fmt.Sprint(r) != fmt.Sprint(s) {
		t.Errorf("%s: %v, error %d; %v, error %d", c.name, r, e, s, f)
	}
}

func TestEmptyListsAreTheSame(t *testing.T) {
	for _, c := range calls() {
		for _, change := range []func(none, empty *args){
			func(none, empty *args) { none.n.Links, empty.n.Links = nil, [][2]int{} },
			func(none, empty *args) { none.n.Notices, empty.n.Notices = nil, []news.Notice{} },
			func(none, empty *args) { none.n.Stands, empty.n.Stands = nil, [][]int{} },
			func(none, empty *args) { none.n.Stands[0], empty.n.Stands[0] = nil, list() },
			func(none, empty *args) { none.cries, empty.cries = nil, cries() },
			func(none, empty *args) { none.path, empty.path = nil, list() },
			func(none, empty *args) { none.stands, empty.stands = nil, list() },
		} {
			none, empty := good(), good()
			change(&none, &empty)
			sameCall(t, c, none, empty)
		}
	}
}

// memory returns all lists that a value has, or that are in its lists.
func memory(v reflect.Value) []reflect.Value {
	var all []reflect.Value
	switch v.Kind() {
	case reflect.Slice:
		all = append(all, v)
		for i := range v.Len() {
			all = append(all, memory(v.Index(i))...)
		}
	case reflect.Struct:
		for i := range v.NumField() {
			all = append(all, memory(v.Field(i))...)
		}
	}
	return all
}

// meets reports whether two lists share memory, up to what lies behind their ends.
func meets(a, b reflect.Value) bool {
	from, to := a.Pointer(), a.Pointer()+uintptr(a.Cap())*a.Type().Elem().Size()
	start, end := b.Pointer(), b.Pointer()+uintptr(b.Cap())*b.Type().Elem().Size()
	return a.Cap() > 0 && b.Cap() > 0 && from < end && start < to
}

func TestResultsShareNoMemory(t *testing.T) {
	for _, c := range calls() {
		x := good()
		result, _ := c.do(x)
		again, _ := c.do(x)
		told := memory(reflect.ValueOf(result))
		given := slices.Concat(memory(reflect.ValueOf(x)), memory(reflect.ValueOf(again)))
		for i, a := range told {
			for _, b := range slices.Concat(given, told[i+1:]) {
				if meets(a, b) {
					t.Errorf("%s: %v shares memory with %v", c.name, a, b)
				}
			}
		}
	}
}

// roomy returns arguments whose lists have something behind their ends, which is not the function's.
func roomy(x args) args {
	x.cries = append(slices.Clone(x.cries), cry(77, 77))[:len(x.cries)]
	x.path = append(slices.Clone(x.path), 77)[:len(x.path)]
	x.stands = append(slices.Clone(x.stands), 77)[:len(x.stands)]
	x.n.Links = append(slices.Clone(x.n.Links), [2]int{77, 77})[:len(x.n.Links)]
	x.n.Notices = append(slices.Clone(x.n.Notices), news.Notice{After: 77})[:len(x.n.Notices)]
	for i, l := range x.n.Stands {
		x.n.Stands[i] = append(slices.Clone(l), 77)[:len(l)]
	}
	x.n.Stands = append(slices.Clone(x.n.Stands), list(77))[:len(x.n.Stands)]
	return x
}

// behind returns what lies behind the ends of lists.
func behind(x args) string {
	said := fmt.Sprint(x.cries[:len(x.cries)+1], x.path[:len(x.path)+1], x.stands[:len(x.stands)+1])
	said += fmt.Sprint(x.n.Links[:len(x.n.Links)+1], x.n.Notices[:len(x.n.Notices)+1], x.n.Stands[:len(x.n.Stands)+1])
	for _, l := range x.n.Stands {
		said += fmt.Sprint(l[:len(l)+1])
	}
	return said
}

func TestArgumentsStay(t *testing.T) {
	for _, c := range calls() {
		x := roomy(good())
		before, ends := x.clone(), behind(x)
		r, e := c.do(x)
		if !reflect.DeepEqual(x, before) || behind(x) != ends {
			t.Errorf("%s changed its arguments: %v, were %v", c.name, x, before)
		}
		if s, f := c.do(x); e != f || fmt.Sprint(r) != fmt.Sprint(s) {
			t.Errorf("%s: %v, and then %v", c.name, r, s)
		}
	}
}

func TestNothingIsKept(t *testing.T) {
	other := good()
	other.n, other.cries = widest()
	other.notice, other.house, other.evenings, other.path, other.cry, other.stands = 6, 9, 3, list(0, 1), cry(7, 5), list(5, 3, 4)
	for _, c := range calls() {
		r, e := c.do(good())
		for _, d := range calls() {
			d.do(other)
		}
		if s, f := c.do(good()); e != f || fmt.Sprint(r) != fmt.Sprint(s) {
			t.Errorf("%s: %v, error %d, and then %v, error %d", c.name, r, e, s, f)
		}
	}
}
