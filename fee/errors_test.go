package fee_test

import (
	"fmt"
	"math"
	"reflect"
	"slices"
	"testing"

	"oyez/api"
	"oyez/fee"
)

// fault makes something in the arguments wrong.
type fault struct {
	e  api.Errno
	do func(*args)
}

// faultsOfRound are those of the criers who may cry a round.
func faultsOfRound(round int) []fault {
	var all []fault
	add := func(e api.Errno, may ...int) {
		all = append(all, fault{e, func(x *args) { x.b.Rounds[round].May = may }})
	}
	add(api.ErrNone)
	add(api.ErrAbsent, 2)
	add(api.ErrAbsent, 1, 0, -1)
	add(api.ErrAbsent, math.MaxInt, math.MinInt)
	add(api.ErrOrder, 1, 0)
	add(api.ErrOrder, 1, 1)
	return all
}

// faultsOfBox are in the order of the chapter's table.
func faultsOfBox() []fault {
	return slices.Concat([]fault{
		{api.ErrCount, func(x *args) { x.b.Criers = 0 }},
		{api.ErrCount, func(x *args) { x.b.Criers = -1 }},
		{api.ErrCount, func(x *args) { x.b.Criers = 5 }},
		{api.ErrCount, func(x *args) { x.b.Criers = math.MinInt }},
		{api.ErrCount, func(x *args) { x.b.Criers = math.MaxInt }},
		{api.ErrCount, func(x *args) { x.b.Rounds = slices.Repeat(x.b.Rounds[:1], 8) }},
		{api.ErrRange, func(x *args) { x.b.Word = -1 }},
		{api.ErrRange, func(x *args) { x.b.Word = 21 }},
		{api.ErrRange, func(x *args) { x.b.Stand = -1 }},
		{api.ErrRange, func(x *args) { x.b.Stand = 21 }},
		{api.ErrRange, func(x *args) { x.b.Fine = math.MinInt }},
		{api.ErrRange, func(x *args) { x.b.Fine = 21 }},
		{api.ErrRange, func(x *args) { x.b.Rounds[0].Words = 0 }},
		{api.ErrRange, func(x *args) { x.b.Rounds[3].Words = 10 }},
		{api.ErrRange, func(x *args) { x.b.Rounds[0].Stands = math.MaxInt }},
		{api.ErrRange, func(x *args) { x.b.Rounds[3].Stands = 0 }},
		{api.ErrRange, func(x *args) { x.b.Rounds[2].Stands = 6 }},
	}, faultsOfRound(0), faultsOfRound(1), faultsOfRound(3))
}

func faultsOfShare() []fault {
	return []fault{
		{api.ErrCount, func(x *args) { x.share = nil }},
		{api.ErrCount, func(x *args) { x.share = list(9, 9, 9) }},
		{api.ErrCount, func(x *args) { x.share = list(0, 0, 0, 1, 1) }},
		{api.ErrAbsent, func(x *args) { x.share[0] = 2 }},
		{api.ErrAbsent, func(x *args) { x.share[3] = -1 }},
		{api.ErrAbsent, func(x *args) { x.share[1] = math.MinInt }},
		{api.ErrAbsent, func(x *args) { x.share[2] = math.MaxInt }},
		{api.ErrFalse, func(x *args) { x.share[3] = 0 }},
	}
}

func faultsOfLate() []fault {
	return []fault{
		{api.ErrCount, func(x *args) { x.late = nil }},
		{api.ErrCount, func(x *args) { x.late = list(61) }},
		{api.ErrCount, func(x *args) { x.late = list(0, 0, 0) }},
		{api.ErrRange, func(x *args) { x.late[0] = -1 }},
		{api.ErrRange, func(x *args) { x.late[1] = 61 }},
		{api.ErrRange, func(x *args) { x.late[0] = math.MinInt }},
		{api.ErrRange, func(x *args) { x.late[1] = math.MaxInt }},
	}
}

func faultsOfRounds() []fault {
	return []fault{
		{api.ErrAbsent, func(x *args) { x.rounds[0] = 4 }},
		{api.ErrAbsent, func(x *args) { x.rounds[1] = -1 }},
		{api.ErrAbsent, func(x *args) { x.rounds[1] = math.MaxInt }},
		{api.ErrTwice, func(x *args) { x.rounds = list(3, 3) }},
		{api.ErrTwice, func(x *args) { x.rounds = list(0, 1, 2, 0) }},
	}
}

func faultsOfDivide() []fault {
	return []fault{
		{api.ErrCount, func(x *args) { x.parts = nil }},
		{api.ErrCount, func(x *args) { x.parts = slices.Repeat(list(-1), 9) }},
		{api.ErrRange, func(x *args) { x.coins = -1 }},
		{api.ErrRange, func(x *args) { x.coins = 100001 }},
		{api.ErrRange, func(x *args) { x.coins = math.MaxInt }},
		{api.ErrRange, func(x *args) { x.parts[0] = -1 }},
		{api.ErrRange, func(x *args) { x.parts[2] = 100001 }},
		{api.ErrRange, func(x *args) { x.parts[1] = math.MinInt }},
		{api.ErrNone, func(x *args) { x.parts = list(0, 0, 0) }},
	}
}

func faultsOfBalances() []fault {
	return []fault{
		{api.ErrCount, func(x *args) { x.balances = slices.Repeat(list(math.MaxInt), 9) }},
		{api.ErrCount, func(x *args) { x.balances = make([]int, 9) }},
		{api.ErrRange, func(x *args) { x.balances[0] = 100001 }},
		{api.ErrRange, func(x *args) { x.balances[4] = -100001 }},
		{api.ErrRange, func(x *args) { x.balances[1] = math.MinInt }},
		{api.ErrRange, func(x *args) { x.balances = list(100001, -100001, 0, 0, 0) }},
		{api.ErrFalse, func(x *args) { x.balances = list(5, -2, -2, 4, -4) }},
		{api.ErrFalse, func(x *args) { x.balances = list(1, 0, 0, 0, 0) }},
	}
}

// faults returns what can be wrong in a call, in the order of the chapter's table of errors.
func faults(name string) []fault {
	switch name {
	case "Fee":
		return append(faultsOfBox(),
			fault{api.ErrAbsent, func(x *args) { x.round = 4 }},
			fault{api.ErrAbsent, func(x *args) { x.round = -1 }},
			fault{api.ErrAbsent, func(x *args) { x.round = math.MinInt }})
	case "Fees", "Spread", "Moves", "Swaps", "Settle":
		return slices.Concat(faultsOfBox(), faultsOfShare())
	case "Fines":
		return slices.Concat(faultsOfBox(), faultsOfShare(), faultsOfLate())
	case "Bound":
		return slices.Concat(faultsOfBox(), faultsOfRounds())
	case "Divide":
		return faultsOfDivide()
	case "Clear", "Clears", "Groups":
		return faultsOfBalances()
	}
	return faultsOfBox()
}

// expect checks the error of a call with faults of which the last one decides, and that there is no result beside it.
func expect(t *testing.T, c call, what string, faults ...fault) {
	t.Helper()
	x := good()
	for _, f := range faults {
		f.do(&x)
	}
	result, e := c.do(x)
	if want := faults[len(faults)-1].e; e != want || !zero(result) {
		t.Errorf("%s with %s: %v, error %d, want %d", c.name, what, result, e, want)
	}
}

func TestEachErrorAlone(t *testing.T) {
	for _, c := range calls() {
		if result, e := c.do(good()); e != api.OK || len(result) > 0 && zero(result) {
			t.Errorf("%s of what is right: %v, error %d", c.name, result, e)
		}
		for i, f := range faults(c.name) {
			expect(t, c, fmt.Sprint("fault ", i), f)
		}
	}
}

func TestOrderOfErrors(t *testing.T) {
	for _, c := range calls() {
		all := faults(c.name)
		for i := range all {
			for j := i + 1; j < len(all); j++ {
				expect(t, c, fmt.Sprintf("faults %d and %d", i, j), all[j], all[i])
			}
			later := slices.Clone(all[i:])
			slices.Reverse(later)
			expect(t, c, fmt.Sprintf("fault %d and all later ones", i), later...)
		}
	}
}

// oddBoxes returns some of all kinds, most of them wrong.
func oddBoxes() []fee.Box {
	all := []fee.Box{harbour(), largest(), {}, {Criers: 1}, {Criers: 4}, open(2), open(1, 1), free(4, 7), free(4, 8), {Criers: 2, Rounds: make([]fee.Round, 3)}}
	for _, n := range list(math.MinInt, -2, -1, 0, 1, 4, 5, 9, 20, 63, 64, math.MaxInt) {
		for _, change := range []func(*fee.Box){
			func(b *fee.Box) { b.Criers = n },
			func(b *fee.Box) { b.Word = n },
			func(b *fee.Box) { b.Stand, b.Fine = n, n },
			func(b *fee.Box) { b.Rounds[1].Words = n },
			func(b *fee.Box) { b.Rounds[1].Stands = n },
			func(b *fee.Box) { b.Rounds[1].May = list(n) },
			func(b *fee.Box) { b.Rounds[0].May = list(0, n, 1) },
		} {
			all = append(all, changed(change))
		}
	}
	return all
}

func TestNothingPanics(t *testing.T) {
	some := list(math.MinInt, -1, 0, 1, 2, 4, 63, 64, math.MaxInt)
	for _, b := range oddBoxes() {
		for _, m := range some {
			for _, n := range some {
				four := list(m, n, m, n)
				x := args{b, m, four, list(m, n), list(m, n), n, list(m, n), list(m, n), []fee.Payment{{From: m, To: n, Coins: m}, {From: n, To: m, Coins: n}}}
				for _, c := range calls() {
					if result, e := c.do(x); e != api.OK && !zero(result) {
						t.Errorf("%s of %v: %v beside error %d", c.name, x, result, e)
					}
				}
			}
		}
	}
}

func TestLongListsEnd(t *testing.T) {
	long := slices.Repeat(list(0, 1), 1<<15)
	want := map[string]api.Errno{"Bound": api.ErrTwice}
	for _, name := range []string{"Fees", "Spread", "Moves", "Swaps", "Settle", "Fines", "Divide", "Clear", "Clears", "Groups"} {
		want[name] = api.ErrCount
	}
	for _, c := range calls() {
		x := good()
		x.share, x.late, x.rounds, x.parts, x.balances = long, long, long, long, long
		if result, e := c.do(x); e != want[c.name] || e != api.OK && !zero(result) {
			t.Errorf("%s: %v, error %d", c.name, result, e)
		}
		if len(faults(c.name)) < len(faultsOfBox()) {
			continue
		}
		x.b.Rounds[2].May = long
		if result, e := c.do(x); e != api.ErrOrder || !zero(result) {
			t.Errorf("%s: %v, error %d", c.name, result, e)
		}
		x.b.Rounds = slices.Repeat(x.b.Rounds, 1<<14)
		if result, e := c.do(x); e != api.ErrCount || !zero(result) {
			t.Errorf("%s: %v, error %d", c.name, result, e)
		}
	}
}

// sameCall checks that a call of two arguments comes to the same.
func sameCall(t *testing.T, c call, x, y args) {
	t.Helper()
	r, e := c.do(x)
	o, f := c.do(y)
	if e != f || fmt.Sprint(r) != fmt.Sprint(o) {
		t.Errorf("%s: %v, error %d; %v, error %d", c.name, r, e, o, f)
	}
}

func TestEmptyListsAreTheSame(t *testing.T) {
	for _, c := range calls() {
		for _, change := range []func(none, empty *args){
			func(none, empty *args) { none.b.Rounds, empty.b.Rounds = nil, []fee.Round{} },
			func(none, empty *args) { none.b.Rounds[1].May, empty.b.Rounds[1].May = nil, list() },
			func(none, empty *args) { none.share, empty.share = nil, list() },
			func(none, empty *args) { none.late, empty.late = nil, list() },
			func(none, empty *args) { none.rounds, empty.rounds = nil, list() },
			func(none, empty *args) { none.parts, empty.parts = nil, list() },
			func(none, empty *args) { none.balances, empty.balances = nil, list() },
			func(none, empty *args) { none.payments, empty.payments = nil, []fee.Payment{} },
			func(none, empty *args) {
				none.b.Rounds, none.share, none.rounds = nil, nil, nil
				empty.b.Rounds, empty.share, empty.rounds = []fee.Round{}, list(), list()
			},
			func(none, empty *args) {
				none.balances, none.payments = nil, nil
				empty.balances, empty.payments = list(), []fee.Payment{}
			},
		} {
			none, empty := good(), good()
			change(&none, &empty)
			sameCall(t, c, none, empty)
		}
	}
}

// memory returns all lists that a value has, or that are in its lists.
func memory(v reflect.Value) []reflect.Value {
	var all []reflect.Value
	switch v.Kind() {
	case reflect.Interface:
		return memory(v.Elem())
	case reflect.Slice:
		all = append(all, v)
		for i := range v.Len() {
			all = append(all, memory(v.Index(i))...)
		}
	case reflect.Struct:
		for i := range v.NumField() {
			all = append(all, memory(v.Field(i))...)
		}
	}
	return all
}

// meets reports whether two lists share memory, up to what lies behind their ends.
func meets(a, b reflect.Value) bool {
	from, to := a.Pointer(), a.Pointer()+uintptr(a.Cap())*a.Type().Elem().Size()
	start, end := b.Pointer(), b.Pointer()+uintptr(b.Cap())*b.Type().Elem().Size()
	return a.Cap() > 0 && b.Cap() > 0 && from < end && start < to
}

func TestResultsShareNoMemory(t *testing.T) {
	settled, paired := good(), good()
	settled.share, paired.balances = list(1, 0, 0, 1), list(1, -1, 2, -2, 3, -3, 4, -4)
	for _, c := range calls() {
		for _, x := range []args{good(), settled, paired} {
			result, _ := c.do(x)
			again, _ := c.do(x)
			given := slices.Concat(memory(reflect.ValueOf(x)), memory(reflect.ValueOf(again)))
			var told []reflect.Value
			for _, r := range result {
				told = append(told, memory(reflect.ValueOf(r))...)
			}
			for i, a := range told {
				for _, b := range slices.Concat(given, told[i+1:]) {
					if meets(a, b) {
						t.Errorf("%s: %v shares memory with %v", c.name, a, b)
					}
				}
			}
		}
	}
}

// withEnd returns a list with something behind its end, which is not the function's.
func withEnd[T any](l []T, end T) []T { return append(slices.Clone(l), end)[:len(l)] }

func roomy(x args) args {
	for i := range x.b.Rounds {
		x.b.Rounds[i].May = withEnd(x.b.Rounds[i].May, 77)
	}
	x.b.Rounds, x.payments = withEnd(x.b.Rounds, fee.Round{Words: 77}), withEnd(x.payments, fee.Payment{Coins: 77})
	x.share, x.late, x.rounds = withEnd(x.share, 77), withEnd(x.late, 77), withEnd(x.rounds, 77)
	x.parts, x.balances = withEnd(x.parts, 77), withEnd(x.balances, 77)
	return x
}

// behind returns what lies behind the ends of lists.
func behind(x args) string {
	said := fmt.Sprint(x.b.Rounds[:len(x.b.Rounds)+1], x.payments[:len(x.payments)+1])
	all := lists(x.share, x.late, x.rounds, x.parts, x.balances)
	for _, r := range x.b.Rounds {
		all = append(all, r.May)
	}
	for _, l := range all {
		said += fmt.Sprint(l[:len(l)+1])
	}
	return said
}

func TestArgumentsStay(t *testing.T) {
	for _, c := range calls() {
		x := roomy(good())
		before, ends := x.clone(), behind(x)
		r, e := c.do(x)
		if !reflect.DeepEqual(x, before) || behind(x) != ends {
			t.Errorf("%s changed its arguments: %v, were %v", c.name, x, before)
		}
		if o, f := c.do(x); e != f || fmt.Sprint(r) != fmt.Sprint(o) {
			t.Errorf("%s: %v, and then %v", c.name, r, o)
		}
	}
}

func TestNothingIsKept(t *testing.T) {
	other := good()
	other.b, other.round, other.share, other.late, other.rounds = largest(), 6, list(0, 1, 2, 3, 0, 1, 2), list(0, 9, 60, 1), numbers(7)
	other.coins, other.parts, other.balances, other.payments = 99999, numbers(8), list(1, -1, 2, -2), nil
	for _, c := range calls() {
		r, e := c.do(good())
		for _, d := range calls() {
			d.do(other)
		}
		if o, f := c.do(good()); e != f || fmt.Sprint(r) != fmt.Sprint(o) {
			t.Errorf("%s: %v, error %d, and then %v, error %d", c.name, r, e, o, f)
		}
	}
}
