package find_test

import (
	"fmt"
	"math"
	"reflect"
	"slices"
	"testing"

	"oyez/api"
	"oyez/find"
)

// fault makes something in the arguments wrong.
type fault struct {
	e  api.Errno
	do func(*args)
}

// setTraits gives a desk so many traits, and each description as many values.
func setTraits(d *find.Desk, many int) {
	d.Weights = slices.Repeat(list(1), many)
	for _, things := range [][][]int{d.Lost, d.Found} {
		for i := range things {
			things[i] = slices.Repeat(list(1), many)
		}
	}
}

// faultsOfCounts are so that the ones that come first leave no others.
func faultsOfCounts() []fault {
	return []fault{
		{api.ErrCount, func(x *args) { setTraits(&x.d, 0) }},
		{api.ErrCount, func(x *args) { setTraits(&x.d, 6) }},
		{api.ErrCount, func(x *args) { x.d.Lost, x.d.Rewards = slices.Repeat(lists(list(1, 1, 1)), 7), make([]int, 7) }},
		{api.ErrCount, func(x *args) { x.d.Found = slices.Repeat(lists(list(1, 1, 1)), 7) }},
		{api.ErrCount, func(x *args) { x.d.Lost, x.d.Rewards = nil, list(1) }},
		{api.ErrCount, func(x *args) { x.d.Rewards = nil }},
		{api.ErrCount, func(x *args) { x.d.Rewards = list(1) }},
		{api.ErrCount, func(x *args) { x.d.Rewards = list(1, 1, 1) }},
		{api.ErrCount, func(x *args) { x.d.Weights = list(1, 1) }},
		{api.ErrCount, func(x *args) { x.d.Weights = list(1, 1, 1, 1) }},
		{api.ErrCount, func(x *args) { x.d.Lost[0] = nil }},
		{api.ErrCount, func(x *args) { x.d.Lost[1] = list(1, 1, 1, 1) }},
		{api.ErrCount, func(x *args) { x.d.Found[0] = list(9, 9) }},
		{api.ErrCount, func(x *args) { x.d.Found[1] = list(1, 1, 1, 1) }},
	}
}

// faultsOfDesk are in the order of the chapter's table.
func faultsOfDesk() []fault {
	return slices.Concat(faultsOfCounts(), []fault{
		{api.ErrRange, func(x *args) { x.d.Weights[0] = 0 }},
		{api.ErrRange, func(x *args) { x.d.Weights[2] = 10 }},
		{api.ErrRange, func(x *args) { x.d.Slips = -1 }},
		{api.ErrRange, func(x *args) { x.d.Slips = 4 }},
		{api.ErrRange, func(x *args) { x.d.Rewards[0] = -1 }},
		{api.ErrRange, func(x *args) { x.d.Rewards[1] = 100 }},
		{api.ErrRange, func(x *args) { x.d.Lost[0][1] = -2 }},
		{api.ErrRange, func(x *args) { x.d.Lost[1][2] = 6 }},
		{api.ErrRange, func(x *args) { x.d.Found[0][0] = math.MinInt }},
		{api.ErrRange, func(x *args) { x.d.Found[1][2] = math.MaxInt }},
	})
}

func faultsOfLost() []fault {
	var all []fault
	for _, lost := range list(-1, 2, math.MinInt, math.MaxInt) {
		all = append(all, fault{api.ErrAbsent, func(x *args) { x.lost = lost }})
	}
	return all
}

func faultsOfFound() []fault {
	var all []fault
	for _, found := range list(-1, 2, math.MinInt, math.MaxInt) {
		all = append(all, fault{api.ErrAbsent, func(x *args) { x.found = found }})
	}
	return all
}

func faultsOfJoins() []fault {
	return []fault{
		{api.ErrCount, func(x *args) { x.joins = nil }},
		{api.ErrCount, func(x *args) { x.joins = list(9) }},
		{api.ErrCount, func(x *args) { x.joins = list(0, 0, none) }},
		{api.ErrAbsent, func(x *args) { x.joins[0] = 2 }},
		{api.ErrAbsent, func(x *args) { x.joins[1] = -2 }},
		{api.ErrAbsent, func(x *args) { x.joins[1] = math.MaxInt }},
		{api.ErrTwice, func(x *args) { x.joins = list(0, 0) }},
		{api.ErrTwice, func(x *args) { x.joins = list(1, 1) }},
		{api.ErrFalse, func(x *args) { x.joins = list(0, 1) }},
	}
}

func faultsOfPrices() []fault {
	return []fault{
		{api.ErrCount, func(x *args) { x.ofLost = nil }},
		{api.ErrCount, func(x *args) { x.ofLost = list(9, 9, 9) }},
		{api.ErrCount, func(x *args) { x.ofFound = list(9) }},
		{api.ErrCount, func(x *args) { x.ofFound = list(9, 9, 9) }},
		{api.ErrRange, func(x *args) { x.ofLost[0] = -1 }},
		{api.ErrRange, func(x *args) { x.ofLost[1] = 1000 }},
		{api.ErrRange, func(x *args) { x.ofFound[0] = math.MinInt }},
		{api.ErrRange, func(x *args) { x.ofFound[1] = math.MaxInt }},
		{api.ErrFalse, func(x *args) { x.ofLost[0] = 2 }},
		{api.ErrFalse, func(x *args) { x.ofFound[0] = 4 }},
	}
}

func faultsOfWith() []fault {
	return slices.Concat(faultsOfFound(), []fault{
		{api.ErrAbsent, func(x *args) { x.trait = -1 }},
		{api.ErrAbsent, func(x *args) { x.trait = 3 }},
		{api.ErrAbsent, func(x *args) { x.trait = math.MaxInt }},
		{api.ErrTwice, func(x *args) { x.found, x.trait = 0, 0 }},
		{api.ErrTwice, func(x *args) { x.found, x.trait = 1, 1 }},
		{api.ErrRange, func(x *args) { x.value = -1 }},
		{api.ErrRange, func(x *args) { x.value = 6 }},
		{api.ErrRange, func(x *args) { x.value = math.MinInt }},
	})
}

// faults returns what can be wrong in a call, in the order of the chapter's table of errors.
func faults(name string) []fault {
	of := faultsOfDesk()
	switch name {
	case "Agree", "Fates":
		return slices.Concat(of, faultsOfLost(), faultsOfFound())
	case "May":
		return slices.Concat(of, faultsOfLost())
	case "Claims":
		return slices.Concat(of, faultsOfFound())
	case "Worth", "Reward":
		return slices.Concat(of, faultsOfJoins())
	case "Shows":
		return slices.Concat(of, faultsOfPrices())
	case "Change":
		return slices.Concat(of, faultsOfJoins(), []fault{{api.ErrNone, func(x *args) { x.joins = list(1, 0) }}})
	case "With":
		return slices.Concat(of, faultsOfWith())
	case "Ask":
		return slices.Concat(of, []fault{{api.ErrNone, func(x *args) { x.d.Found = lists(list(1, 1, 1), list(1, 2, 3)) }}})
	}
	return of
}

// expect checks the error of a call with faults of which the last one decides, and that there is no result beside it.
func expect(t *testing.T, c call, what string, faults ...fault) {
	t.Helper()
	x := good()
	for _, f := range faults {
		f.do(&x)
	}
	result, e := c.do(x)
	if want := faults[len(faults)-1].e; e != want || !zero(result) {
		t.Errorf("%s with %s: %v, error %d, want %d", c.name, what, result, e, want)
	}
}

func TestEachErrorAlone(t *testing.T) {
	for _, c := range calls() {
		if _, e := c.do(good()); e != api.OK {
			t.Errorf("%s of what is right: error %d", c.name, e)
		}
		for i, f := range faults(c.name) {
			expect(t, c, fmt.Sprint("fault ", i), f)
		}
	}
}

func TestOrderOfErrors(t *testing.T) {
	for _, c := range calls() {
		all := faults(c.name)
		for i := range all {
			for j := i + 1; j < len(all); j++ {
				expect(t, c, fmt.Sprintf("faults %d and %d", i, j), all[j], all[i])
			}
			later := slices.Clone(all[i:])
			slices.Reverse(later)
			expect(t, c, fmt.Sprintf("fault %d and all later ones", i), later...)
		}
	}
}

// oddDesks returns some of all kinds, most of them wrong.
func oddDesks() []find.Desk {
	all := []find.Desk{purse(0), purse(3), {}, alike(), sized(5, 6, 6), sized(6, 7, 7), sized(0, 0, 0), sized(1, 0, 0), sized(1, 0, 2), sized(1, 2, 0), {Lost: make([][]int, 2)}, {Weights: list(1), Found: make([][]int, 2)}}
	for _, n := range list(math.MinInt, -2, -1, 0, 3, 5, 6, 63, 64, math.MaxInt) {
		for _, change := range []func(*find.Desk){
			func(d *find.Desk) { d.Weights[0] = n },
			func(d *find.Desk) { d.Weights = list(n, n, n) },
			func(d *find.Desk) { d.Slips = n },
			func(d *find.Desk) { d.Rewards[1] = n },
			func(d *find.Desk) { d.Lost[1] = list(n, n, n) },
			func(d *find.Desk) { d.Found[0] = list(1, n, n) },
		} {
			d := purse(0)
			change(&d)
			all = append(all, d)
		}
	}
	return all
}

func TestNothingPanics(t *testing.T) {
	numbers := list(math.MinInt, -1, 0, 1, 2, 5, 63, 64, math.MaxInt)
	for _, d := range oddDesks() {
		for _, a := range numbers {
			for _, b := range numbers {
				x := args{d, a, b, a, b, list(a, b), list(b, a), list(a, b)}
				for _, c := range calls() {
					if result, e := c.do(x); e != api.OK && !zero(result) {
						t.Errorf("%s of %v: %v beside error %d", c.name, x, result, e)
					}
				}
			}
		}
	}
}

func TestLongListsEnd(t *testing.T) {
	long := slices.Repeat(list(0, 1), 1<<15)
	for _, c := range calls() {
		for _, change := range []func(*args){
			func(x *args) { x.d.Weights = long },
			func(x *args) { x.d.Lost, x.d.Rewards = slices.Repeat(lists(list(1, 1, 1)), len(long)), long },
			func(x *args) { x.d.Lost[1] = long },
			func(x *args) { x.d.Found = slices.Repeat(lists(list(1, 1, 1)), len(long)) },
			func(x *args) { x.d.Found[1] = long },
			func(x *args) { x.d.Rewards = long },
		} {
			x := good()
			change(&x)
			if result, e := c.do(x); e != api.ErrCount || !zero(result) {
				t.Errorf("%s: %v beside error %d", c.name, result, e)
			}
		}
		x := good()
		x.joins, x.ofLost, x.ofFound = long, long, long
		want := map[string]api.Errno{"Worth": api.ErrCount, "Reward": api.ErrCount, "Change": api.ErrCount, "Shows": api.ErrCount}[c.name]
		if result, e := c.do(x); e != want {
			t.Errorf("%s: %v, error %d", c.name, result, e)
		}
	}
}

// sameCall checks that a call of two arguments comes to the same.
func sameCall(t *testing.T, c call, x, y args) {
	t.Helper()
	r, e := c.do(x)
	o, f := c.do(y)
	if e != f || fmt.Sprint(r) != fmt.Sprint(o) {
		t.Errorf("%s: %v, error %d; %v, error %d", c.name, r, e, o, f)
	}
}

func TestEmptyListsAreTheSame(t *testing.T) {
	for _, c := range calls() {
		for _, change := range []func(none, empty *args){
			func(none, empty *args) { none.d.Weights, empty.d.Weights = nil, list() },
			func(none, empty *args) { none.d.Lost, empty.d.Lost = nil, lists() },
			func(none, empty *args) {
				none.d.Lost, none.d.Rewards, empty.d.Lost, empty.d.Rewards = nil, nil, lists(), list()
			},
			func(none, empty *args) { none.d.Lost[0], empty.d.Lost[0] = nil, list() },
			func(none, empty *args) { none.d.Found, empty.d.Found = nil, lists() },
			func(none, empty *args) { none.d.Found[1], empty.d.Found[1] = nil, list() },
			func(none, empty *args) { none.d.Rewards, empty.d.Rewards = nil, list() },
			func(none, empty *args) { none.joins, empty.joins = nil, list() },
			func(none, empty *args) { none.ofLost, empty.ofLost = nil, list() },
			func(none, empty *args) { none.ofFound, empty.ofFound = nil, list() },
		} {
			none, empty := good(), good()
			change(&none, &empty)
			sameCall(t, c, none, empty)
		}
	}
}

func TestEmptyJoinsAndPrices(t *testing.T) {
	for _, c := range calls() {
		none, empty := good(), good()
		none.d, empty.d = sized(1, 0, 0), sized(1, 0, 0)
		none.joins, none.ofLost, none.ofFound = nil, nil, nil
		empty.joins, empty.ofLost, empty.ofFound = list(), list(), list()
		sameCall(t, c, none, empty)
	}
}

// memory returns all lists that a value has, or that are in its lists.
func memory(v reflect.Value) []reflect.Value {
	var all []reflect.Value
	switch v.Kind() {
	case reflect.Interface:
		return memory(v.Elem())
	case reflect.Slice:
		all = append(all, v)
		for i := range v.Len() {
			all = append(all, memory(v.Index(i))...)
		}
	case reflect.Struct:
		for i := range v.NumField() {
			all = append(all, memory(v.Field(i))...)
		}
	}
	return all
}

// meets reports whether two lists share memory, up to what lies behind their ends.
func meets(a, b reflect.Value) bool {
	from, to := a.Pointer(), a.Pointer()+uintptr(a.Cap())*a.Type().Elem().Size()
	start, end := b.Pointer(), b.Pointer()+uintptr(b.Cap())*b.Type().Elem().Size()
	return a.Cap() > 0 && b.Cap() > 0 && from < end && start < to
}

func TestResultsShareNoMemory(t *testing.T) {
	thing := list(1, u, u)
	twice := good()
	twice.d.Lost, twice.d.Found = lists(thing, thing), lists(thing, thing)
	for _, c := range calls() {
		for _, x := range []args{good(), twice} {
			result, _ := c.do(x)
			again, _ := c.do(x)
			given := slices.Concat(memory(reflect.ValueOf(x)), memory(reflect.ValueOf(again)))
			var told []reflect.Value
			for _, r := range result {
				told = append(told, memory(reflect.ValueOf(r))...)
			}
			for i, a := range told {
				for _, b := range slices.Concat(given, told[i+1:]) {
					if meets(a, b) {
						t.Errorf("%s: %v shares memory with %v", c.name, a, b)
					}
				}
			}
		}
	}
}

// withEnd returns a list with something behind its end, which is not the function's.
func withEnd[T any](l []T, end T) []T { return append(slices.Clone(l), end)[:len(l)] }

func roomy(x args) args {
	for _, things := range [][][]int{x.d.Lost, x.d.Found} {
		for i, l := range things {
			things[i] = withEnd(l, 77)
		}
	}
	x.d.Lost, x.d.Found = withEnd(x.d.Lost, list(77)), withEnd(x.d.Found, list(77))
	x.d.Weights, x.d.Rewards = withEnd(x.d.Weights, 77), withEnd(x.d.Rewards, 77)
	x.joins, x.ofLost, x.ofFound = withEnd(x.joins, 77), withEnd(x.ofLost, 77), withEnd(x.ofFound, 77)
	return x
}

// behind returns what lies behind the ends of lists.
func behind(x args) string {
	said := fmt.Sprint(x.d.Lost[:len(x.d.Lost)+1], x.d.Found[:len(x.d.Found)+1])
	for _, l := range slices.Concat(x.d.Lost, x.d.Found, lists(x.d.Weights, x.d.Rewards, x.joins, x.ofLost, x.ofFound)) {
		said += fmt.Sprint(l[:len(l)+1])
	}
	return said
}

func TestArgumentsStay(t *testing.T) {
	for _, c := range calls() {
		x := roomy(good())
		before, ends := x.clone(), behind(x)
		r, e := c.do(x)
		if !reflect.DeepEqual(x, before) || behind(x) != ends {
			t.Errorf("%s changed its arguments: %v, were %v", c.name, x, before)
		}
		if o, f := c.do(x); e != f || fmt.Sprint(r) != fmt.Sprint(o) {
			t.Errorf("%s: %v, and then %v", c.name, r, o)
		}
	}
}

func TestNothingIsKept(t *testing.T) {
	other := good()
	other.d, other.lost, other.found, other.trait = alike(), 5, 5, 4
	other.joins = list(5, 4, 3, 2, 1, 0)
	other.ofLost, other.ofFound = list(9, 9, 9, 9, 9, 9), list(9, 9, 9, 9, 9, 9)
	for _, c := range calls() {
		r, e := c.do(good())
		for _, d := range calls() {
			d.do(other)
		}
		if o, f := c.do(good()); e != f || fmt.Sprint(r) != fmt.Sprint(o) {
			t.Errorf("%s: %v, error %d, and then %v, error %d", c.name, r, e, o, f)
		}
	}
}
