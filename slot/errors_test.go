package slot_test

import (
	"fmt"
	"math"
	"reflect"
	"slices"
	"testing"

	"oyez/api"
	"oyez/slot"
)

// fault makes something in the arguments wrong.
type fault struct {
	e  api.Errno
	do func(*args)
}

// faultsOfNotice are those of one that must be cried once at least. They are in the order of the chapter's table, as all
// lists of faults are.
func faultsOfNotice(i int) []fault {
	var all []fault
	add := func(e api.Errno, change func(n *slot.Notice)) {
		all = append(all, fault{e, func(x *args) { change(&x.r.Notices[i]) }})
	}
	for _, times := range list(0, -1, 4, math.MinInt, math.MaxInt) {
		add(api.ErrRange, func(n *slot.Notice) { n.Times = times })
	}
	for _, men := range lists(list(3), list(-1, 0, 1), list(1, 0, 3), list(0, math.MaxInt), list(math.MinInt)) {
		add(api.ErrAbsent, func(n *slot.Notice) { n.Men = men })
	}
	for _, men := range lists(list(1, 0), list(0, 1, 1), list(2, 2)) {
		add(api.ErrOrder, func(n *slot.Notice) { n.Men = men })
	}
	add(api.ErrNone, func(n *slot.Notice) { n.Men = nil })
	add(api.ErrNone, func(n *slot.Notice) { *n = notice(3, 0, 2) })
	return all
}

func faultsOfRoll() []fault {
	return slices.Concat([]fault{
		{api.ErrCount, func(x *args) { x.r.Men = 0 }},
		{api.ErrCount, func(x *args) { x.r.Men = -1 }},
		{api.ErrCount, func(x *args) { x.r.Men = 6 }},
		{api.ErrCount, func(x *args) { x.r.Men = math.MinInt }},
		{api.ErrCount, func(x *args) { x.r.Men = math.MaxInt }},
		{api.ErrCount, func(x *args) { x.r.Notices = slices.Repeat(x.r.Notices[:1], 7) }},
	}, faultsOfNotice(0), faultsOfNotice(1), faultsOfNotice(3))
}

func faultsOfShare() []fault {
	all := []fault{
		{api.ErrCount, func(x *args) { x.share = nil }},
		{api.ErrCount, func(x *args) { x.share = lists(list(9), list(9), list(9)) }},
		{api.ErrCount, func(x *args) { x.share = append(courtShare(), nil) }},
	}
	add := func(e api.Errno, i int, men ...int) {
		all = append(all, fault{e, func(x *args) { x.share[i] = men }})
	}
	add(api.ErrCount, 0)
	add(api.ErrCount, 0, 9, 8)
	add(api.ErrCount, 0, 0, 1, 2, 2)
	add(api.ErrAbsent, 0, 0, 1, 3)
	add(api.ErrAbsent, 0, 2, 1, -1)
	add(api.ErrAbsent, 0, math.MaxInt, math.MinInt, 0)
	add(api.ErrOrder, 0, 2, 1, 0)
	add(api.ErrOrder, 0, 0, 1, 1)
	add(api.ErrCount, 1)
	add(api.ErrCount, 1, 0, 1)
	add(api.ErrAbsent, 1, 2)
	add(api.ErrAbsent, 2, 1)
	add(api.ErrCount, 3, 1)
	add(api.ErrAbsent, 3, 3, 0)
	add(api.ErrOrder, 3, 2, 1)
	add(api.ErrOrder, 3, 1, 1)
	return all
}

func faultsOfMen() []fault {
	return []fault{
		{api.ErrAbsent, func(x *args) { x.men = list(3, 0, 0) }},
		{api.ErrAbsent, func(x *args) { x.men = list(0, 1, -1) }},
		{api.ErrAbsent, func(x *args) { x.men = list(math.MinInt, math.MinInt) }},
		{api.ErrAbsent, func(x *args) { x.men = list(math.MaxInt) }},
		{api.ErrTwice, func(x *args) { x.men = list(0, 0, 3) }},
		{api.ErrTwice, func(x *args) { x.men = list(2, 1, 2) }},
	}
}

func faultsOfPlan() []fault {
	all := []fault{
		{api.ErrCount, func(x *args) { x.plan = slices.Repeat(lists(list(9, 9, 9)), 9) }},
		{api.ErrCount, func(x *args) { x.plan = lists(list(9, 9, 9), list(0, 0)) }},
		{api.ErrCount, func(x *args) { x.plan = lists(nil) }},
		{api.ErrCount, func(x *args) { x.plan = append(courtPlan(), list(-1, -1, -1, -1)) }},
	}
	add := func(e api.Errno, i, man, n int) {
		all = append(all, fault{e, func(x *args) { x.plan[i][man] = n }})
	}
	add(api.ErrAbsent, 0, 0, 4)
	add(api.ErrAbsent, 1, 2, -2)
	add(api.ErrAbsent, 2, 2, math.MinInt)
	add(api.ErrAbsent, 2, 0, math.MaxInt)
	add(api.ErrTwice, 0, 1, 0)
	add(api.ErrTwice, 1, 2, 3)
	add(api.ErrFalse, 1, 0, slot.None)
	add(api.ErrFalse, 2, 2, 3)
	add(api.ErrFalse, 2, 1, 1)
	return all
}

func faultsOfNumber() []fault {
	return []fault{
		{api.ErrAbsent, func(x *args) { x.notice = 4 }},
		{api.ErrAbsent, func(x *args) { x.notice = -1 }},
		{api.ErrAbsent, func(x *args) { x.notice = math.MinInt }},
		{api.ErrAbsent, func(x *args) { x.notice = math.MaxInt }},
	}
}

func faultsOfKept() []fault {
	var all []fault
	for _, n := range list(-1, 9, math.MinInt, math.MaxInt) {
		all = append(all, fault{api.ErrRange, func(x *args) { x.slots = n }})
	}
	add := func(e api.Errno, told ...int) {
		all = append(all, fault{e, func(x *args) { x.kept = entries(told...) }})
	}
	add(api.ErrAbsent, 3, 2, 0)
	add(api.ErrAbsent, -1, 2, 0, 9, 9, 9)
	add(api.ErrAbsent, 0, 3, 0)
	add(api.ErrAbsent, 0, -1, 0)
	add(api.ErrAbsent, 0, 2, 4)
	add(api.ErrAbsent, 0, 2, -1, 0, 2, -1)
	add(api.ErrAbsent, math.MaxInt, math.MinInt, math.MaxInt)
	add(api.ErrFalse, 0, 0, 1, 3, 0, 0)
	add(api.ErrFalse, 0, 2, 2, 0, 2, 2)
	add(api.ErrAbsent, 0, 2, 0, 3, 2, 0)
	add(api.ErrFalse, 0, 2, 0, 0, 2, 1)
	add(api.ErrTwice, 0, 2, 0, 0, 2, 3, 9, 9, 9)
	add(api.ErrTwice, 0, 2, 0, 1, 2, 0, 1, 1, 2)
	add(api.ErrTwice, 0, 2, 0, 0, 1, 0)
	add(api.ErrTwice, 0, 2, 0, 0, 2, 0)
	add(api.ErrTwice, 0, 2, 0, 1, 1, 3, 1, 1, 0)
	add(api.ErrNone, 0, 0, 2, 0, 1, 1, 0, 2, 3)
	return append(all, fault{api.ErrNone, func(x *args) { x.slots = 2 }})
}

// faults returns what can be wrong in a call. (Tight of a roll without notices is asked elsewhere, as no notice of it can
// be wrong.)
func faults(name string) []fault {
	switch name {
	case "CheckShare", "Loads", "Slots", "Busy", "Plan":
		return slices.Concat(faultsOfRoll(), faultsOfShare())
	case "Need":
		return slices.Concat(faultsOfRoll(), faultsOfMen())
	case "Holds":
		return slices.Concat(faultsOfRoll(), faultsOfPlan())
	case "First":
		return slices.Concat(faultsOfRoll(), faultsOfPlan(), faultsOfNumber())
	case "Keeps":
		return slices.Concat(faultsOfRoll(), faultsOfShare(), faultsOfKept())
	case "More":
		return slices.Concat(faultsOfRoll(), faultsOfNumber())
	}
	return faultsOfRoll()
}

// expect checks the error of a call with faults of which the last one decides, and that there is no result beside it.
func expect(t *testing.T, c call, what string, faults ...fault) {
	t.Helper()
	x := good()
	for _, f := range faults {
		f.do(&x)
	}
	result, e := c.do(x)
	if want := faults[len(faults)-1].e; e != want || !zero(result) {
		t.Errorf("%s with %s: %v, error %d, want %d", c.name, what, result, e, want)
	}
}

func TestEachErrorAlone(t *testing.T) {
	for _, c := range calls() {
		if result, e := c.do(good()); e != api.OK || len(result) > 0 && zero(result) && c.name != "Spare" {
			t.Errorf("%s of what is right: %v, error %d", c.name, result, e)
		}
		for i, f := range faults(c.name) {
			expect(t, c, fmt.Sprint("fault ", i), f)
		}
	}
}

func TestOrderOfErrors(t *testing.T) {
	for _, c := range calls() {
		all := faults(c.name)
		for i := range all {
			for j := i + 1; j < len(all); j++ {
				expect(t, c, fmt.Sprintf("faults %d and %d", i, j), all[j], all[i])
			}
			later := slices.Clone(all[i:])
			slices.Reverse(later)
			expect(t, c, fmt.Sprintf("fault %d and all later ones", i), later...)
		}
	}
}

// oddRolls returns some of all kinds, most of them wrong.
func oddRolls() []slot.Roll {
	all := []slot.Roll{court(), largest(), {}, {Men: 1}, {Men: 5}, open(2, 2), open(1, 1), open(5, 3, 3, 3, 3, 3, 3, 3), {Men: 2, Notices: make([]slot.Notice, 3)}}
	for _, n := range list(math.MinInt, -2, -1, 0, 1, 2, 3, 4, 5, 6, 63, 64, math.MaxInt) {
		for _, change := range []func(*slot.Roll){
			func(r *slot.Roll) { r.Men = n },
			func(r *slot.Roll) { r.Notices[0].Times = n },
			func(r *slot.Roll) { r.Notices[2].Times = n },
			func(r *slot.Roll) { r.Notices[2].Men = list(n) },
			func(r *slot.Roll) { r.Notices[3].Men = list(0, n, 1) },
		} {
			all = append(all, changed(change))
		}
	}
	return all
}

func TestNothingPanics(t *testing.T) {
	numbers := list(math.MinInt, -1, 0, 1, 2, 4, 7, 64, math.MaxInt)
	for _, r := range oddRolls() {
		for _, m := range numbers {
			for _, n := range numbers {
				four := lists(list(m, n, m), list(n), list(0), list(m, n))
				plan := lists(list(m, n, m), list(n, m, n), list(-1, m, n))
				for _, x := range []args{
					{r, four, plan, list(m, n), n, m, entries(m, n, m, n, m, n)},
					{r, courtShare(), courtPlan(), list(n), n, 8, entries(m, n, 0, n, m, 3)},
					{r, courtShare(), plan[:1], nil, m, n, entries(n, 1, m)},
				} {
					for _, c := range calls() {
						if result, e := c.do(x); e != api.OK && !zero(result) {
							t.Errorf("%s of %v: %v beside error %d", c.name, x, result, e)
						}
					}
				}
			}
		}
	}
}

func TestLongListsEnd(t *testing.T) {
	long := slices.Repeat(list(0, 1), 1<<15)
	want := map[string]api.Errno{"Need": api.ErrTwice, "Keeps": api.ErrTwice}
	for _, name := range []string{"CheckShare", "Loads", "Slots", "Busy", "Plan", "Holds", "First"} {
		want[name] = api.ErrCount
	}
	for _, c := range calls() {
		x := good()
		x.men, x.kept = long, slices.Repeat(x.kept, 1<<15)
		if c.name != "Keeps" {
			x.share[3], x.plan[1] = long, long
		}
		if result, e := c.do(x); e != want[c.name] || e != api.OK && !zero(result) {
			t.Errorf("%s: %v, error %d", c.name, result, e)
		}
		x.share, x.plan = slices.Repeat(courtShare(), 1<<14), slices.Repeat(courtPlan(), 1<<14)
		if want[c.name] == api.ErrCount || c.name == "Keeps" {
			if result, e := c.do(x); e != api.ErrCount || !zero(result) {
				t.Errorf("%s: %v, error %d", c.name, result, e)
			}
		}
		x.r.Notices[3].Men = long
		if result, e := c.do(x); e != api.ErrOrder || !zero(result) {
			t.Errorf("%s: %v, error %d", c.name, result, e)
		}
		x.r.Notices = slices.Repeat(x.r.Notices, 1<<14)
		if result, e := c.do(x); e != api.ErrCount || !zero(result) {
			t.Errorf("%s: %v, error %d", c.name, result, e)
		}
	}
}

// sameCall checks that a call of two arguments comes to the same.
func sameCall(t *testing.T, c call, x, y args) {
	t.Helper()
	r, e := c.do(x)
	o, f := c.do(y)
	if e != f || fmt.Sprint(r) != fmt.Sprint(o) {
		t.Errorf("%s: %v, error %d; %v, error %d", c.name, r, e, o, f)
	}
}

func TestEmptyListsAreTheSame(t *testing.T) {
	for _, c := range calls() {
		for _, change := range []func(none, empty *args){
			func(none, empty *args) { none.r.Notices, empty.r.Notices = nil, []slot.Notice{} },
			func(none, empty *args) { none.r.Notices[1].Men, empty.r.Notices[1].Men = nil, list() },
			func(none, empty *args) { none.share, empty.share = nil, lists() },
			func(none, empty *args) { none.share[1], empty.share[1] = nil, list() },
			func(none, empty *args) { none.plan, empty.plan = nil, lists() },
			func(none, empty *args) { none.plan[1], empty.plan[1] = nil, list() },
			func(none, empty *args) { none.men, empty.men = nil, list() },
			func(none, empty *args) { none.kept, empty.kept = nil, entries() },
			func(none, empty *args) { none.kept, empty.kept = nil, []slot.Entry{} },
			func(none, empty *args) {
				none.r.Notices, none.share, none.plan, none.kept = nil, nil, nil, nil
				empty.r.Notices, empty.share, empty.plan, empty.kept = []slot.Notice{}, lists(), lists(), []slot.Entry{}
				none.slots, empty.slots = 0, 0
			},
		} {
			none, empty := good(), good()
			change(&none, &empty)
			sameCall(t, c, none, empty)
		}
	}
}

// memory returns all lists that a value has, or that are in its lists.
func memory(v reflect.Value) []reflect.Value {
	var all []reflect.Value
	switch v.Kind() {
	case reflect.Interface:
		return memory(v.Elem())
	case reflect.Slice:
		all = append(all, v)
		for i := range v.Len() {
			all = append(all, memory(v.Index(i))...)
		}
	case reflect.Struct:
		for i := range v.NumField() {
			all = append(all, memory(v.Field(i))...)
		}
	}
	return all
}

// meets reports whether two lists share memory, up to what lies behind their ends.
func meets(a, b reflect.Value) bool {
	from, to := a.Pointer(), a.Pointer()+uintptr(a.Cap())*a.Type().Elem().Size()
	start, end := b.Pointer(), b.Pointer()+uintptr(b.Cap())*b.Type().Elem().Size()
	return a.Cap() > 0 && b.Cap() > 0 && from < end && start < to
}

func TestResultsShareNoMemory(t *testing.T) {
	moved, free := good(), good()
	moved.notice = 0
	free.r = open(3, 3, 1, 1, 2)
	for _, c := range calls() {
		for _, x := range []args{good(), moved, free} {
			result, _ := c.do(x)
			again, _ := c.do(x)
			given := slices.Concat(memory(reflect.ValueOf(x)), memory(reflect.ValueOf(again)))
			var told []reflect.Value
			for _, r := range result {
				told = append(told, memory(reflect.ValueOf(r))...)
			}
			for i, a := range told {
				for _, b := range slices.Concat(given, told[i+1:]) {
					if meets(a, b) {
						t.Errorf("%s: %v shares memory with %v", c.name, a, b)
					}
				}
			}
		}
	}
}

// withEnd returns a list with something behind its end, which is not the function's.
func withEnd[T any](l []T, end T) []T { return append(slices.Clone(l), end)[:len(l)] }

func roomy(x args) args {
	for i := range x.r.Notices {
		x.r.Notices[i].Men = withEnd(x.r.Notices[i].Men, 77)
	}
	for i := range x.share {
		x.share[i] = withEnd(x.share[i], 77)
	}
	for i := range x.plan {
		x.plan[i] = withEnd(x.plan[i], 77)
	}
	x.r.Notices, x.kept = withEnd(x.r.Notices, notice(77)), withEnd(x.kept, entries(77, 77, 77)[0])
	x.share, x.plan, x.men = withEnd(x.share, list(77)), withEnd(x.plan, list(77)), withEnd(x.men, 77)
	return x
}

// behind returns what lies behind the ends of lists.
func behind(x args) string {
	said := fmt.Sprint(x.r.Notices[:len(x.r.Notices)+1], x.kept[:len(x.kept)+1], x.share[:len(x.share)+1], x.plan[:len(x.plan)+1])
	all := slices.Concat(x.share, x.plan, lists(x.men))
	for _, n := range x.r.Notices {
		all = append(all, n.Men)
	}
	for _, l := range all {
		said += fmt.Sprint(l[:len(l)+1])
	}
	return said
}

func TestArgumentsStay(t *testing.T) {
	for _, c := range calls() {
		x := roomy(good())
		before, ends := x.clone(), behind(x)
		r, e := c.do(x)
		if !reflect.DeepEqual(x, before) || behind(x) != ends {
			t.Errorf("%s changed its arguments: %v, were %v", c.name, x, before)
		}
		if o, f := c.do(x); e != f || fmt.Sprint(r) != fmt.Sprint(o) {
			t.Errorf("%s: %v, and then %v", c.name, r, o)
		}
	}
}

func TestNothingIsKept(t *testing.T) {
	other := good()
	other.r, other.share, other.men = largest(), slices.Repeat(lists(list(0, 1, 2), list(2, 3, 4)), 3), numbers(5)
	other.plan, _ = slot.Plan(other.r, other.share)
	other.notice, other.slots, other.kept = 5, 8, entries(7, 0, 0)
	for _, c := range calls() {
		r, e := c.do(good())
		for _, d := range calls() {
			if _, e := d.do(other); e != api.OK {
				t.Error(d.name, e)
			}
		}
		if o, f := c.do(good()); e != f || fmt.Sprint(r) != fmt.Sprint(o) {
			t.Errorf("%s: %v, error %d, and then %v, error %d", c.name, r, e, o, f)
		}
	}
}
