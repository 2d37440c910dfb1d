package night_test

import (
	"fmt"
	"math"
	"reflect"
	"slices"
	"testing"

	"oyez/api"
	"oyez/night"
)

// fault makes something in the arguments wrong.
type fault struct {
	e  api.Errno
	do func(*args)
}

// addMan adds a man to a watch, with a mark in each hour.
func addMan(w *night.Watch, listens []int) {
	w.Listens = append(w.Listens, listens)
	for hour := range w.Hours {
		w.Hours[hour] = append(w.Hours[hour], u)
	}
}

func faultsOfCounts() []fault {
	return []fault{
		{api.ErrCount, func(x *args) { x.w.Listens, x.w.Hours = nil, [][]night.Mark{nil} }},
		{api.ErrCount, func(x *args) {
			for len(x.w.Listens) <= night.MaxMen {
				addMan(&x.w, nil)
			}
		}},
		{api.ErrCount, func(x *args) { x.w.Hours = nil }},
		{api.ErrCount, func(x *args) { x.w.Hours = slices.Repeat([][]night.Mark{marks(u, u, u, u)}, 9) }},
		{api.ErrCount, func(x *args) { x.w.Hours[0] = marks(u, u, 3) }},
		{api.ErrCount, func(x *args) { x.w.Hours[1] = marks(u, u, u, u, u) }},
		{api.ErrCount, func(x *args) { x.w.Hours[1] = nil }},
	}
}

// faultsOfWatch are in the order of the chapter's table.
func faultsOfWatch() []fault {
	return slices.Concat(faultsOfCounts(), []fault{
		{api.ErrAbsent, func(x *args) { x.w.Listens[0] = list(0, 0) }},
		{api.ErrAbsent, func(x *args) { x.w.Listens[0] = list(-1) }},
		{api.ErrAbsent, func(x *args) { x.w.Listens[1] = list(1, 0, 0) }},
		{api.ErrTwice, func(x *args) { x.w.Listens[1] = list(0, 0, 1) }},
		{api.ErrAbsent, func(x *args) { x.w.Listens[2] = list(0, 2, 0) }},
		{api.ErrAbsent, func(x *args) { x.w.Listens[2] = list(0, 1, math.MinInt) }},
		{api.ErrTwice, func(x *args) { x.w.Listens[2] = list(1, 0, 1, 5) }},
		{api.ErrTwice, func(x *args) { x.w.Listens[3] = list(2, 2) }},
		{api.ErrAbsent, func(x *args) { x.w.Listens[3] = list(4) }},
		{api.ErrRange, func(x *args) { x.w.Hours[0][0] = 3 }},
		{api.ErrRange, func(x *args) { x.w.Hours[1][3] = -1 }},
		{api.ErrRange, func(x *args) { x.w.Hours[1][2] = math.MaxInt }},
	})
}

func faultsOfSet() []fault {
	var all []fault
	for _, set := range list(-1, 16, math.MinInt, math.MaxInt) {
		all = append(all, fault{api.ErrRange, func(x *args) { x.asleep = set }})
	}
	return all
}

func faultsOfHour() []fault {
	var all []fault
	for _, hour := range list(-1, 2, math.MinInt, math.MaxInt) {
		all = append(all, fault{api.ErrAbsent, func(x *args) { x.hour = hour }})
	}
	return all
}

func faultsOfPlace() []fault {
	var all []fault
	for _, p := range places(at(-1, 0), at(2, 0), at(0, -1), at(0, 4), at(math.MinInt, math.MaxInt)) {
		all = append(all, fault{api.ErrAbsent, func(x *args) { x.p = p }})
	}
	return all
}

func clash() []fault {
	return []fault{{api.ErrClash, func(x *args) { x.w.Hours[0][0], x.w.Hours[0][1] = s, h }}}
}

func faultsOfNights() []fault {
	return []fault{
		{api.ErrCount, func(x *args) { x.nights = nil }},
		{api.ErrCount, func(x *args) { x.nights = list(-1) }},
		{api.ErrCount, func(x *args) { x.nights = list(2, 2, 2) }},
		{api.ErrRange, func(x *args) { x.nights[0] = -1 }},
		{api.ErrRange, func(x *args) { x.nights[0] = 16 }},
		{api.ErrFalse, func(x *args) { x.nights[0] = 1 }},
		{api.ErrRange, func(x *args) { x.nights[1] = -1 }},
		{api.ErrRange, func(x *args) { x.nights[1] = 16 }},
		{api.ErrFalse, func(x *args) { x.nights[1] = 8 }},
	}
}

func faultsOfTable() []fault {
	return []fault{
		{api.ErrCount, func(x *args) { x.table = nil }},
		{api.ErrCount, func(x *args) { x.table = x.table[:1] }},
		{api.ErrCount, func(x *args) { x.table = append(x.table, make([]int, 16)) }},
		{api.ErrCount, func(x *args) { x.table[0] = x.table[0][:15] }},
		{api.ErrCount, func(x *args) { x.table[1] = make([]int, 17) }},
		{api.ErrRange, func(x *args) { x.table[0][0] = -1 }},
		{api.ErrRange, func(x *args) { x.table[1][15] = 100 }},
		{api.ErrFalse, func(x *args) { x.table[0][2] = 2 }},
		{api.ErrFalse, func(x *args) { x.table[1][1] = 3 }},
	}
}

// faults returns what can be wrong in a call, in the order of the chapter's table of errors.
func faults(name string) []fault {
	of := faultsOfWatch()
	switch name {
	case "Check", "Count", "Ways", "Wrong":
		return of
	case "Cries":
		return slices.Concat(of, faultsOfSet())
	case "Fits":
		return slices.Concat(of, faultsOfHour(), faultsOfSet())
	case "With":
		return slices.Concat(of, faultsOfPlace(), []fault{
			{api.ErrRange, func(x *args) { x.m = 3 }},
			{api.ErrRange, func(x *args) { x.m = -1 }},
		})
	case "Naps":
		return slices.Concat(of, faultsOfNights())
	case "Shows":
		return slices.Concat(of, clash(), faultsOfTable())
	case "Most":
		return slices.Concat(of, []fault{
			{api.ErrAbsent, func(x *args) { x.man = -1 }},
			{api.ErrAbsent, func(x *args) { x.man = 4 }},
		}, clash())
	case "Split":
		return slices.Concat(of, faultsOfPlace(), []fault{{api.ErrTwice, func(x *args) { x.p = at(0, 2) }}})
	case "Ask":
		return slices.Concat(of, clash(), []fault{{api.ErrNone, func(x *args) {
			x.w.Hours = [][]night.Mark{marks(h, h, s, h), marks(h, h, h, h)}
		}}})
	}
	return slices.Concat(of, clash())
}

// expect checks the error of a call with faults of which the last one decides, and that there is no result beside it.
func expect(t *testing.T, c call, what string, faults ...fault) {
	t.Helper()
	x := good()
	for _, f := range faults {
		f.do(&x)
	}
	result, e := c.do(x)
	if want := faults[len(faults)-1].e; e != want || !zero(result) {
		t.Errorf("%s with %s: %v, error %d, want %d", c.name, what, result, e, want)
	}
}

func TestEachErrorAlone(t *testing.T) {
	for _, c := range calls() {
		if _, e := c.do(good()); e != api.OK {
			t.Errorf("%s of what is right: error %d", c.name, e)
		}
		for i, f := range faults(c.name) {
			expect(t, c, fmt.Sprint("fault ", i), f)
		}
	}
}

func TestOrderOfErrors(t *testing.T) {
	for _, c := range calls() {
		all := faults(c.name)
		for i := range all {
			for j := i + 1; j < len(all); j++ {
				expect(t, c, fmt.Sprintf("faults %d and %d", i, j), all[j], all[i])
			}
			later := slices.Clone(all[i:])
			slices.Reverse(later)
			expect(t, c, fmt.Sprintf("fault %d and all later ones", i), later...)
		}
	}
}

// oddWatches returns some of all kinds, most of them wrong.
func oddWatches() []night.Watch {
	all := []night.Watch{four(), nothingKnown(6, 8), alternating(), {}, nothingKnown(0, 3), nothingKnown(1, 0), nothingKnown(1, 1), nothingKnown(7, 9), {Listens: make([][]int, 2)}, {Hours: make([][]night.Mark, 2)}}
	for _, n := range list(math.MinInt, -2, -1, 0, 3, 4, 63, 64, math.MaxInt) {
		for _, change := range []func(*night.Watch){
			func(w *night.Watch) { w.Listens[0] = list(n) },
			func(w *night.Watch) { w.Listens[1] = list(n, n) },
			func(w *night.Watch) { w.Listens[3] = list(0, n, 1) },
			func(w *night.Watch) { w.Hours[0][3] = night.Mark(n) },
			func(w *night.Watch) { w.Hours[1][0] = night.Mark(n) },
		} {
			w := four()
			change(&w)
			all = append(all, w)
		}
	}
	return all
}

func TestNothingPanics(t *testing.T) {
	numbers := list(math.MinInt, -1, 0, 1, 3, 8, 63, 64, math.MaxInt)
	for _, w := range oddWatches() {
		for _, a := range numbers {
			for _, b := range numbers {
				x := args{w, a, b, b, at(a, b), night.Mark(b), list(a, b), [][]int{list(a, b), nil}}
				for _, c := range calls() {
					if result, e := c.do(x); e != api.OK && !zero(result) {
						t.Errorf("%s of %v: %v beside error %d", c.name, x, result, e)
					}
				}
			}
		}
	}
}

func TestLongListsEnd(t *testing.T) {
	long := slices.Repeat(list(0, 1), 1<<12)
	for _, c := range calls() {
		for _, change := range []func(*args){
			func(x *args) { x.w.Listens = make([][]int, 1<<16) },
			func(x *args) { x.w.Listens[3] = long },
			func(x *args) { x.w.Hours = make([][]night.Mark, 1<<16) },
			func(x *args) { x.w.Hours[1] = make([]night.Mark, 1<<16) },
		} {
			x := good()
			change(&x)
			if result, e := c.do(x); e == api.OK || !zero(result) {
				t.Errorf("%s: %v beside error %d", c.name, result, e)
			}
		}
		x := good()
		x.nights, x.table = long, slices.Repeat([][]int{long}, 1<<10)
		want := map[string]api.Errno{"Naps": api.ErrCount, "Shows": api.ErrCount}[c.name]
		if result, e := c.do(x); e != want {
			t.Errorf("%s: %v, error %d", c.name, result, e)
		}
	}
}

// sameCall checks that a call of two arguments comes to the same.
func sameCall(t *testing.T, c call, x, y args) {
	t.Helper()
	r, e := c.do(x)
	o, f := c.do(y)
	if e != f || fmt.Sprint(r) != fmt.Sprint(o) {
		t.Errorf("%s: %v, error %d; %v, error %d", c.name, r, e, o, f)
	}
}

func TestEmptyListsAreTheSame(t *testing.T) {
	for _, c := range calls() {
		for _, change := range []func(none, empty *args){
			func(none, empty *args) { none.w.Listens, empty.w.Listens = nil, [][]int{} },
			func(none, empty *args) { none.w.Listens[0], empty.w.Listens[0] = nil, list() },
			func(none, empty *args) { none.w.Listens[3], empty.w.Listens[3] = nil, list() },
			func(none, empty *args) { none.w.Hours, empty.w.Hours = nil, [][]night.Mark{} },
			func(none, empty *args) { none.w.Hours[1], empty.w.Hours[1] = nil, marks() },
			func(none, empty *args) { none.nights, empty.nights = nil, list() },
			func(none, empty *args) { none.table, empty.table = nil, [][]int{} },
			func(none, empty *args) { none.table[0], empty.table[0] = nil, list() },
		} {
			none, empty := good(), good()
			change(&none, &empty)
			sameCall(t, c, none, empty)
		}
	}
}

// memory returns all lists that a value has, or that are in its lists.
func memory(v reflect.Value) []reflect.Value {
	var all []reflect.Value
	switch v.Kind() {
	case reflect.Interface:
		return memory(v.Elem())
	case reflect.Slice:
		all = append(all, v)
		for i := range v.Len() {
			all = append(all, memory(v.Index(i))...)
		}
	case reflect.Struct:
		for i := range v.NumField() {
			all = append(all, memory(v.Field(i))...)
		}
	}
	return all
}

// meets reports whether two lists share memory, up to what lies behind their ends.
func meets(a, b reflect.Value) bool {
	from, to := a.Pointer(), a.Pointer()+uintptr(a.Cap())*a.Type().Elem().Size()
	start, end := b.Pointer(), b.Pointer()+uintptr(b.Cap())*b.Type().Elem().Size()
	return a.Cap() > 0 && b.Cap() > 0 && from < end && start < to
}

func TestResultsShareNoMemory(t *testing.T) {
	for _, c := range calls() {
		x := good()
		result, _ := c.do(x)
		again, _ := c.do(x)
		given := slices.Concat(memory(reflect.ValueOf(x)), memory(reflect.ValueOf(again)))
		var told []reflect.Value
		for _, r := range result {
			told = append(told, memory(reflect.ValueOf(r))...)
		}
		for i, a := range told {
			for _, b := range slices.Concat(given, told[i+1:]) {
				if meets(a, b) {
					t.Errorf("%s: %v shares memory with %v", c.name, a, b)
				}
			}
		}
	}
}

// roomy returns arguments whose lists have something behind their ends, which is not the function's.
func roomy(x args) args {
	for i, l := range x.w.Listens {
		x.w.Listens[i] = append(slices.Clone(l), 77)[:len(l)]
	}
	for i, l := range x.w.Hours {
		x.w.Hours[i] = append(slices.Clone(l), 77)[:len(l)]
	}
	for i, l := range x.table {
		x.table[i] = append(slices.Clone(l), 77)[:len(l)]
	}
	x.w.Listens = append(slices.Clone(x.w.Listens), list(77))[:len(x.w.Listens)]
	x.w.Hours = append(slices.Clone(x.w.Hours), marks(77))[:len(x.w.Hours)]
	x.table = append(slices.Clone(x.table), list(77))[:len(x.table)]
	x.nights = append(slices.Clone(x.nights), 77)[:len(x.nights)]
	return x
}

// behind returns what lies behind the ends of lists.
func behind(x args) string {
	said := fmt.Sprint(x.w.Listens[:len(x.w.Listens)+1], x.w.Hours[:len(x.w.Hours)+1], x.table[:len(x.table)+1], x.nights[:len(x.nights)+1])
	for _, l := range slices.Concat(x.w.Listens, x.table) {
		said += fmt.Sprint(l[:len(l)+1])
	}
	for _, l := range x.w.Hours {
		said += fmt.Sprint(l[:len(l)+1])
	}
	return said
}

func TestArgumentsStay(t *testing.T) {
	for _, c := range calls() {
		x := roomy(good())
		before, ends := x.clone(), behind(x)
		r, e := c.do(x)
		if !reflect.DeepEqual(x, before) || behind(x) != ends {
			t.Errorf("%s changed its arguments: %v, were %v", c.name, x, before)
		}
		if o, f := c.do(x); e != f || fmt.Sprint(r) != fmt.Sprint(o) {
			t.Errorf("%s: %v, and then %v", c.name, r, o)
		}
	}
}

func TestNothingIsKept(t *testing.T) {
	other := good()
	other.w = alternating()
	other.asleep, other.hour, other.man, other.p, other.m = 63, 7, 5, at(7, 5), s
	other.nights, other.table = list(63, 0, 63, 0, 63, 0, 63, 0), slices.Repeat([][]int{make([]int, 64)}, 8)
	for _, c := range calls() {
		r, e := c.do(good())
		for _, d := range calls() {
			d.do(other)
		}
		if o, f := c.do(good()); e != f || fmt.Sprint(r) != fmt.Sprint(o) {
			t.Errorf("%s: %v, error %d, and then %v, error %d", c.name, r, e, o, f)
		}
	}
}
