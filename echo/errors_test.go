package echo_test

import (
	"fmt"
	"math"
	"reflect"
	"slices"
	"testing"

	"oyez/api"
	"oyez/echo"
)

// fault makes something in the arguments wrong.
type fault struct {
	e  api.Errno
	do func(*args)
}

// faultsOfEcho are in the order of the chapter's table, as all lists of faults are.
func faultsOfEcho() []fault {
	all := []fault{
		{api.ErrCount, func(x *args) { x.e.Texts = nil }},
		{api.ErrCount, func(x *args) { x.e.Texts = slices.Repeat(x.e.Texts, 3) }},
		{api.ErrCount, func(x *args) { x.e.Texts[0] = nil }},
		{api.ErrCount, func(x *args) { x.e.Texts[1] = list(9, 9, 9, 9, 9, 9, 9) }},
		{api.ErrCount, func(x *args) { x.e.Heard = make([]int, 11) }},
	}
	for _, n := range list(-1, 10, math.MinInt, math.MaxInt) {
		all = append(all,
			fault{api.ErrRange, func(x *args) { x.e.Texts[0][2] = n }},
			fault{api.ErrRange, func(x *args) { x.e.Texts[1][0] = n }},
			fault{api.ErrRange, func(x *args) { x.e.Heard[0] = n }})
	}
	for _, n := range list(-1, 9, math.MinInt, math.MaxInt) {
		all = append(all, fault{api.ErrRange, func(x *args) { x.e.Faults = n }})
	}
	return all
}

func faultsOfPair() []fault {
	var all []fault
	for _, n := range list(2, -1, math.MinInt, math.MaxInt) {
		all = append(all,
			fault{api.ErrAbsent, func(x *args) { x.p.A = n }},
			fault{api.ErrAbsent, func(x *args) { x.p.B = n }})
	}
	return all
}

func faultsOfText() []fault {
	var all []fault
	for _, n := range list(2, -1, math.MinInt, math.MaxInt) {
		all = append(all, fault{api.ErrAbsent, func(x *args) { x.text = n }})
	}
	return all
}

func faultsOfReading() []fault {
	all := []fault{
		{api.ErrCount, func(x *args) { x.reading = nil }},
		{api.ErrCount, func(x *args) { x.reading = places(ofA(0), ofB(0)) }},
		{api.ErrCount, func(x *args) { x.reading = places(ofA(9), ofB(9), ofA(9), ofA(9)) }},
	}
	for _, l := range [][]echo.Place{
		places(ofA(0), ofB(0), ofB(0)),
		places(ofA(1), ofB(0), ofB(1)),
		places(ofA(-1), ofB(0), ofB(1)),
		places(ofA(3), ofB(0), ofB(1)),
		places(ofA(0), ofB(0), ofB(2)),
		places(ofA(0), ofA(0), ofB(1)),
		places(echo.Place{}, ofB(0), ofB(1)),
		places(ofA(0), echo.Place{Side: 4}, ofB(1)),
		places(ofA(0), ofB(0), echo.Place{Side: echo.Noise, At: 1}),
		places(ofA(math.MinInt), ofB(math.MaxInt), noise()),
	} {
		all = append(all, fault{api.ErrFalse, func(x *args) { x.reading = l }})
	}
	return all
}

func faultsOfMarks() []fault {
	all := []fault{
		{api.ErrCount, func(x *args) { x.marks = nil }},
		{api.ErrCount, func(x *args) { x.marks = x.marks[:3] }},
		{api.ErrCount, func(x *args) { x.marks = append(x.marks, x.marks[0]) }},
		{api.ErrCount, func(x *args) { x.marks[2] = nil }},
		{api.ErrCount, func(x *args) { x.marks[2] = x.marks[2][:3] }},
		{api.ErrCount, func(x *args) { x.marks[0] = append(x.marks[0], list(9, 9, 9)) }},
		{api.ErrCount, func(x *args) { x.marks[1][3] = nil }},
		{api.ErrCount, func(x *args) { x.marks[3][0] = list(100, 100) }},
		{api.ErrCount, func(x *args) { x.marks[3][2] = append(x.marks[3][2], -1) }},
	}
	for _, n := range list(-1, 100, math.MinInt, math.MaxInt) {
		all = append(all,
			fault{api.ErrRange, func(x *args) { x.marks[0][0][0] = n }},
			fault{api.ErrRange, func(x *args) { x.marks[2][1][1] = n }},
			fault{api.ErrRange, func(x *args) { x.marks[3][3][2] = n }})
	}
	return append(all,
		fault{api.ErrFalse, func(x *args) { x.marks[0][0][0] = 1 }},
		fault{api.ErrFalse, func(x *args) { x.marks[2][1][1] = 1 }},
		fault{api.ErrFalse, func(x *args) { x.marks[3][3][2] = 3 }},
		fault{api.ErrFalse, func(x *args) { x.marks[3][3][0] = 99 }})
}

// faults returns what can be wrong in a call. (That Musts returns ErrNone is asked elsewhere, as what makes it so is right.)
func faults(name string) []fault {
	switch name {
	case "Least", "Reading", "Count", "Sure", "Marks", "Distance", "Common", "Middle":
		return slices.Concat(faultsOfEcho(), faultsOfPair())
	case "Faults":
		return slices.Concat(faultsOfEcho(), faultsOfPair(), faultsOfReading())
	case "Shows":
		return slices.Concat(faultsOfEcho(), faultsOfPair(), faultsOfMarks())
	case "With":
		return slices.Concat(faultsOfEcho(), faultsOfText())
	}
	return faultsOfEcho()
}

// expect checks the error of a call with faults of which the last one decides, and that there is no result beside it.
func expect(t *testing.T, c call, what string, faults ...fault) {
	t.Helper()
	x := good().clone()
	for _, f := range faults {
		f.do(&x)
	}
	result, e := c.do(x)
	if want := faults[len(faults)-1].e; e != want || !zero(result) {
		t.Errorf("%s with %s: %v, error %d, want %d", c.name, what, result, e, want)
	}
}

func TestEachErrorAlone(t *testing.T) {
	for _, c := range calls() {
		if result, e := c.do(good()); e != api.OK || len(result) > 0 && zero(result) {
			t.Errorf("%s of what is right: %v, error %d", c.name, result, e)
		}
		for i, f := range faults(c.name) {
			expect(t, c, fmt.Sprint("fault ", i), f)
		}
	}
}

func TestOrderOfErrors(t *testing.T) {
	for _, c := range calls() {
		all := faults(c.name)
		for i := range all {
			for j := i + 1; j < len(all); j++ {
				if all[j].e == all[i].e {
					continue
				}
				expect(t, c, fmt.Sprintf("faults %d and %d", i, j), all[j], all[i])
			}
		}
	}
}

// TestErrorsOfAnEchoComeFirst asks also where the other arguments would be wrong, and where no pair can be.
func TestErrorsOfAnEchoComeFirst(t *testing.T) {
	for _, c := range calls() {
		for i, f := range faultsOfEcho() {
			x := args{e: clone(crossed(3, 0)), p: pair(-1, 9), text: 7}
			f.do(&x)
			if result, e := c.do(x); e != f.e || !zero(result) {
				t.Errorf("%s with fault %d: %v, error %d", c.name, i, result, e)
			}
		}
	}
	if musts, e := echo.Musts(crossed(2, 0)); musts != nil || e != api.ErrNone {
		t.Error(musts, e)
	}
}

// oddEchoes returns some of all kinds, most of them wrong.
func oddEchoes() []echo.Echo {
	all := []echo.Echo{crossed(5, 8), largest(), {}, {Faults: -1}, texts(0, nil), {Texts: make([][]int, 3)}, {Heard: list(1)}}
	for _, n := range list(math.MinInt, -1, 0, 1, 9, 10, math.MaxInt) {
		for _, change := range []func(*echo.Echo){
			func(e *echo.Echo) { e.Faults = n },
			func(e *echo.Echo) { e.Texts[0][0] = n },
			func(e *echo.Echo) { e.Texts[1] = list(n) },
			func(e *echo.Echo) { e.Heard = list(n, n) },
			func(e *echo.Echo) { e.Heard[4] = n },
		} {
			e := clone(crossed(5, 3))
			change(&e)
			all = append(all, e)
		}
	}
	return all
}

func TestNothingPanics(t *testing.T) {
	odd := list(math.MinInt, -1, 0, 1, 3, math.MaxInt)
	for _, e := range oddEchoes() {
		for _, m := range odd {
			for _, n := range odd {
				p := echo.Place{Side: echo.Side(m), At: n}
				marks, _ := echo.Marks(e, pair(0, 0))
				if len(marks) > 0 {
					last := marks[len(marks)-1]
					last[len(last)-1][0], marks[0][0][0] = m, n
				}
				for _, x := range []args{
					{e, pair(m, n), m, slices.Repeat(places(p), len(e.Heard)), marks},
					{e, pair(0, 0), n, append(places(ofA(0), p), make([]echo.Place, len(e.Heard))...)[:len(e.Heard)], marks},
					{e, pair(0, 1), n, places(p), [][][]int{lists(list(m, n)), nil}},
				} {
					for _, c := range calls() {
						if result, e := c.do(x); e != api.OK && !zero(result) {
							t.Errorf("%s of %v: %v beside error %d", c.name, x, result, e)
						}
					}
				}
			}
		}
	}
}

func TestLongListsEnd(t *testing.T) {
	long := slices.Repeat(list(1, 2), 1<<15)
	for _, c := range calls() {
		for _, change := range []func(x *args){
			func(x *args) { x.e.Texts = slices.Repeat(x.e.Texts, 1<<15) },
			func(x *args) { x.e.Texts[1] = long },
			func(x *args) { x.e.Heard = long },
		} {
			x := good().clone()
			change(&x)
			if result, e := c.do(x); e != api.ErrCount || !zero(result) {
				t.Errorf("%s: %v, error %d", c.name, result, e)
			}
		}
	}
	for _, marks := range [][][][]int{
		slices.Repeat(goodMarks(), 1<<14),
		{slices.Repeat(lists(list(0, 0, 0)), 1<<15), nil, nil, nil},
		{lists(long, long, long, long), nil, nil, nil},
	} {
		if n, e := echo.Shows(crossed(3, 0), pair(0, 1), marks); n != 0 || e != api.ErrCount {
			t.Error(n, e)
		}
	}
	if n, e := echo.Faults(crossed(3, 0), pair(0, 1), make([]echo.Place, 1<<16)); n != 0 || e != api.ErrCount {
		t.Error(n, e)
	}
}

// sameCall checks that a call of two arguments comes to the same.
func sameCall(t *testing.T, c call, x, y args) {
	t.Helper()
	r, e := c.do(x)
	o, f := c.do(y)
	if e != f || fmt.Sprint(r) != fmt.Sprint(o) {
		t.Errorf("%s: %v, error %d; %v, error %d", c.name, r, e, o, f)
	}
}

func TestEmptyListsAreTheSame(t *testing.T) {
	for _, c := range calls() {
		for _, change := range []func(none, empty *args){
			func(none, empty *args) { none.e.Texts, empty.e.Texts = nil, lists() },
			func(none, empty *args) { none.e.Texts[1], empty.e.Texts[1] = nil, list() },
			func(none, empty *args) { none.e.Heard, empty.e.Heard = nil, list() },
			func(none, empty *args) { none.reading, empty.reading = nil, places() },
			func(none, empty *args) { none.marks, empty.marks = nil, [][][]int{} },
			func(none, empty *args) { none.marks[1], empty.marks[1] = nil, lists() },
			func(none, empty *args) { none.marks[1][1], empty.marks[1][1] = nil, list() },
			func(none, empty *args) {
				none.e.Heard, empty.e.Heard = nil, list()
				none.reading, empty.reading = nil, places()
				none.marks, empty.marks = none.marks[:1], empty.marks[:1]
			},
		} {
			none, empty := good().clone(), good().clone()
			change(&none, &empty)
			sameCall(t, c, none, empty)
		}
	}
}

// memory returns all lists that a value has, or that are in its lists.
func memory(v reflect.Value) []reflect.Value {
	var all []reflect.Value
	switch v.Kind() {
	case reflect.Interface:
		return memory(v.Elem())
	case reflect.Slice:
		all = append(all, v)
		for i := range v.Len() {
			all = append(all, memory(v.Index(i))...)
		}
	case reflect.Struct:
		for i := range v.NumField() {
			all = append(all, memory(v.Field(i))...)
		}
	}
	return all
}

// meets reports whether two lists share memory, up to what lies behind their ends.
func meets(a, b reflect.Value) bool {
	from, to := a.Pointer(), a.Pointer()+uintptr(a.Cap())*a.Type().Elem().Size()
	start, end := b.Pointer(), b.Pointer()+uintptr(b.Cap())*b.Type().Elem().Size()
	return a.Cap() > 0 && b.Cap() > 0 && from < end && start < to
}

func TestResultsShareNoMemory(t *testing.T) {
	alike := good()
	alike.e.Texts = lists(list(1, 4, 2), list(1, 4, 2))
	for _, c := range calls() {
		for _, x := range []args{good(), alike} {
			result, _ := c.do(x)
			again, _ := c.do(x)
			given := slices.Concat(memory(reflect.ValueOf(x)), memory(reflect.ValueOf(again)))
			var told []reflect.Value
			for _, r := range result {
				told = append(told, memory(reflect.ValueOf(r))...)
			}
			for i, a := range told {
				for _, b := range slices.Concat(given, told[i+1:]) {
					if meets(a, b) {
						t.Errorf("%s: %v shares memory with %v", c.name, a, b)
					}
				}
			}
		}
	}
}

// withEnd returns a list with something behind its end, which is not the function's.
func withEnd[T any](l []T, end T) []T { return append(slices.Clone(l), end)[:len(l)] }

func roomy(x args) args {
	x = x.clone()
	for i := range x.e.Texts {
		x.e.Texts[i] = withEnd(x.e.Texts[i], 7)
	}
	for _, plane := range x.marks {
		for a := range plane {
			plane[a] = withEnd(plane[a], 7)
		}
	}
	for i := range x.marks {
		x.marks[i] = withEnd(x.marks[i], list(7))
	}
	x.e.Texts, x.e.Heard = withEnd(x.e.Texts, list(7)), withEnd(x.e.Heard, 7)
	x.reading, x.marks = withEnd(x.reading, ofA(7)), withEnd(x.marks, lists(list(7)))
	return x
}

// behind returns what lies behind the ends of lists.
func behind(x args) string {
	said := fmt.Sprint(x.e.Texts[:len(x.e.Texts)+1], x.reading[:len(x.reading)+1], x.marks[:len(x.marks)+1])
	all := append(slices.Clone(x.e.Texts), x.e.Heard)
	for _, plane := range x.marks {
		said += fmt.Sprint(plane[:len(plane)+1])
		all = append(all, plane...)
	}
	for _, l := range all {
		said += fmt.Sprint(l[:len(l)+1])
	}
	return said
}

func TestArgumentsStay(t *testing.T) {
	for _, c := range calls() {
		x := roomy(good())
		before, ends := x.clone(), behind(x)
		r, e := c.do(x)
		if !reflect.DeepEqual(x, before) || behind(x) != ends {
			t.Errorf("%s changed its arguments: %v, were %v", c.name, x, before)
		}
		if o, f := c.do(x); e != f || fmt.Sprint(r) != fmt.Sprint(o) {
			t.Errorf("%s: %v, and then %v", c.name, r, o)
		}
	}
}

func TestNothingIsKept(t *testing.T) {
	other := args{e: largest(), p: pair(4, 2), text: 3}
	other.reading, _ = echo.Reading(other.e, other.p)
	other.marks, _ = echo.Marks(other.e, other.p)
	for _, c := range calls() {
		r, e := c.do(good())
		for _, d := range calls() {
			if _, e := d.do(other); e != api.OK && d.name != "Musts" {
				t.Error(d.name, e)
			}
		}
		if o, f := c.do(good()); e != f || fmt.Sprint(r) != fmt.Sprint(o) {
			t.Errorf("%s: %v, error %d, and then %v, error %d", c.name, r, e, o, f)
		}
	}
}

func TestResultsCanBeChanged(t *testing.T) {
	for _, c := range calls() {
		before, _ := c.do(good())
		said := fmt.Sprint(before)
		for _, r := range before {
			for _, l := range memory(reflect.ValueOf(r)) {
				l.Clear()
			}
		}
		if after, _ := c.do(good()); fmt.Sprint(after) != said {
			t.Errorf("%s: %s, and then %v", c.name, said, after)
		}
	}
}
