package round_test

import (
	"fmt"
	"math"
	"reflect"
	"slices"
	"testing"

	"oyez/api"
	"oyez/round"
)

// fault makes something in the arguments wrong.
type fault struct {
	e  api.Errno
	do func(*args)
}

// faultsOfBeat are in the order of the chapter's table. The last one is made of another beat, as the others must be able to follow it.
func faultsOfBeat() []fault {
	return slices.Concat(faultsOfCounts(), []fault{
		{api.ErrAbsent, func(x *args) { x.b.Start = -1 }},
		{api.ErrAbsent, func(x *args) { x.b.Start = 3 }},
		{api.ErrRange, func(x *args) { x.b.Walks[2][2] = 1 }},
		{api.ErrRange, func(x *args) { x.b.Walks[1][1] = round.None }},
		{api.ErrRange, func(x *args) { x.b.Walks[0][1] = 0 }},
		{api.ErrRange, func(x *args) { x.b.Walks[2][0] = 21 }},
		{api.ErrRange, func(x *args) { x.b.Walks[2][0] = -2 }},
		{api.ErrAbsent, func(x *args) { x.b.Hears[0] = list(0, 5, 0) }},
		{api.ErrTwice, func(x *args) { x.b.Hears[0] = list(0, 0, 5) }},
		{api.ErrAbsent, func(x *args) { x.b.Hears[1] = list(-1) }},
		{api.ErrTwice, func(x *args) { x.b.Hears[2] = list(2, 1, 2) }},
	}, faultsOfNotice(0), faultsOfNotice(1), []fault{
		{api.ErrCount, func(x *args) {
			x.b.Houses = 5
			x.b.Notices = []round.Notice{notice(1, 9, 0, 1, 2, 3), notice(1, 9, 4, 3, 2, 1), notice(1, 9, 0, 4)}
		}},
	})
}

func faultsOfCounts() []fault {
	return []fault{
		{api.ErrCount, func(x *args) { x.b.Walks, x.b.Hears = nil, nil }},
		{api.ErrCount, func(x *args) {
			x.b.Walks, x.b.Hears = nil, make([][]int, 6)
			for stand := range 6 {
				x.b.Walks = append(x.b.Walks, slices.Repeat(list(1), 6))
				x.b.Walks[stand][stand] = 0
			}
		}},
		{api.ErrCount, func(x *args) { x.b.Houses = 0 }},
		{api.ErrCount, func(x *args) { x.b.Houses = 6 }},
		{api.ErrCount, func(x *args) { x.b.Houses = math.MinInt }},
		{api.ErrCount, func(x *args) { x.b.Houses = math.MaxInt }},
		{api.ErrCount, func(x *args) { x.b.Notices = slices.Repeat([]round.Notice{notice(1, 9, 0)}, 4) }},
		{api.ErrCount, func(x *args) { x.b.Hears = x.b.Hears[:2] }},
		{api.ErrCount, func(x *args) { x.b.Hears = append(x.b.Hears, nil) }},
		{api.ErrCount, func(x *args) { x.b.Walks[0] = list(0, 2) }},
		{api.ErrCount, func(x *args) { x.b.Walks[2] = list(1, 2, 0, 4) }},
		{api.ErrCount, func(x *args) { x.b.Walks[1] = nil }},
	}
}

func faultsOfNotice(i int) []fault {
	return []fault{
		{api.ErrNone, func(x *args) { x.b.Notices[i].Quarter = nil }},
		{api.ErrAbsent, func(x *args) { x.b.Notices[i].Quarter = list(0, 5, 0) }},
		{api.ErrAbsent, func(x *args) { x.b.Notices[i].Quarter = list(-1) }},
		{api.ErrTwice, func(x *args) { x.b.Notices[i].Quarter = list(2, 2, -1) }},
		{api.ErrRange, func(x *args) { x.b.Notices[i].Words = 0 }},
		{api.ErrRange, func(x *args) { x.b.Notices[i].Words = 6 }},
		{api.ErrRange, func(x *args) { x.b.Notices[i].Hour = -1 }},
		{api.ErrRange, func(x *args) { x.b.Notices[i].Hour = 201 }},
	}
}

func faultsOfWalk() []fault {
	return []fault{
		{api.ErrAbsent, func(x *args) { x.from = -1 }},
		{api.ErrAbsent, func(x *args) { x.from = 3 }},
		{api.ErrAbsent, func(x *args) { x.to = -1 }},
		{api.ErrAbsent, func(x *args) { x.to = 3 }},
		{api.ErrNone, func(x *args) { x.b.Walks[0][1] = round.None }},
	}
}

func faultsOfRound() []fault {
	return []fault{
		{api.ErrCount, func(x *args) { x.round = make([]round.Cry, 21) }},
		{api.ErrCount, func(x *args) { x.round = slices.Repeat([]round.Cry{cry(7, 7)}, 21) }},
		{api.ErrAbsent, func(x *args) { x.round = []round.Cry{cry(3, 0)} }},
		{api.ErrAbsent, func(x *args) { x.round = []round.Cry{cry(1, 1), cry(-1, 0)} }},
		{api.ErrAbsent, func(x *args) { x.round = []round.Cry{cry(1, 1), cry(0, 2)} }},
		{api.ErrAbsent, func(x *args) { x.round = []round.Cry{cry(0, -1)} }},
		{api.ErrNone, func(x *args) { x.b.Walks[1][2], x.round = round.None, []round.Cry{cry(1, 1), cry(2, 0)} }},
	}
}

func faultsOfPair() []fault {
	return []fault{
		{api.ErrAbsent, func(x *args) { x.p = pair(-1, 0) }},
		{api.ErrAbsent, func(x *args) { x.p = pair(2, 0) }},
		{api.ErrAbsent, func(x *args) { x.p = pair(0, 1) }},
		{api.ErrAbsent, func(x *args) { x.p = pair(0, -1) }},
		{api.ErrAbsent, func(x *args) { x.p = pair(1, 3) }},
		{api.ErrNone, func(x *args) { x.b.Hears[0] = nil }},
	}
}

func faultsOfPairs() []fault {
	return []fault{
		{api.ErrAbsent, func(x *args) { x.pairs = []round.Pair{pair(1, 1), pair(0, 1), pair(1, 1)} }},
		{api.ErrAbsent, func(x *args) { x.pairs = []round.Pair{pair(3, 0)} }},
		{api.ErrTwice, func(x *args) { x.pairs = []round.Pair{pair(1, 1), pair(0, 0), pair(1, 1), pair(9, 9)} }},
	}
}

func faultsOfNumber() []fault {
	return []fault{
		{api.ErrAbsent, func(x *args) { x.notice = -1 }},
		{api.ErrAbsent, func(x *args) { x.notice = 3 }},
	}
}

func faultUnserved() []fault {
	return []fault{{api.ErrNone, func(x *args) { x.b.Notices[1].Hour = 2 }}}
}

func faultServed() []fault {
	return []fault{{api.ErrNone, func(x *args) { x.b.Notices[0].Hour, x.minute = 12, 11 }}}
}

// faultsOf returns those of a number from 0 to MaxHour.
func faultsOf(number func(*args) *int) []fault {
	var all []fault
	for _, n := range list(-1, 201, math.MinInt, math.MaxInt) {
		all = append(all, fault{api.ErrRange, func(x *args) { *number(x) = n }})
	}
	return all
}

// faults returns what can be wrong in a call, in the order of the chapter's table of errors.
func faults(name string) []fault {
	all := faultsOfBeat()
	switch name {
	case "Walk", "Path":
		return slices.Concat(all, faultsOfWalk())
	case "Ends", "Heard", "Missed":
		return slices.Concat(all, faultsOfRound())
	case "Soonest":
		return slices.Concat(all, faultsOfPair())
	case "Best", "Two":
		return slices.Concat(all, faultUnserved())
	case "Excludes":
		return slices.Concat(all, faultServed())
	case "Together":
		return slices.Concat(all, faultsOfPairs())
	case "Before":
		return slices.Concat(all, faultsOf(func(x *args) *int { return &x.minute }), faultServed())
	case "Hurry":
		return slices.Concat(all, faultsOfNumber(), faultUnserved())
	case "Put":
		return slices.Concat(all, faultsOfNumber(), faultsOf(func(x *args) *int { return &x.hour }))
	}
	return all
}

// expect checks the error of a call with faults of which the last one decides, and that there is no result beside it.
func expect(t *testing.T, c call, what string, faults ...fault) {
	t.Helper()
	x := good(c.name)
	for _, f := range faults {
		f.do(&x)
	}
	results, e := c.do(x)
	if want := faults[len(faults)-1].e; e != want || !zero(results) {
		t.Errorf("%s with %s: %v, error %d, want %d", c.name, what, results, e, want)
	}
}

func TestEachErrorAlone(t *testing.T) {
	for _, c := range calls() {
		if _, e := c.do(good(c.name)); e != api.OK {
			t.Errorf("%s of what is right: error %d", c.name, e)
		}
		for i, f := range faults(c.name) {
			expect(t, c, fmt.Sprint("fault ", i), f)
		}
	}
}

func TestOrderOfErrors(t *testing.T) {
	for _, c := range calls() {
		all := faults(c.name)
		for i := range all {
			for j := i + 1; j < len(all); j++ {
				expect(t, c, fmt.Sprintf("faults %d and %d", i, j), all[j], all[i])
			}
			later := slices.Clone(all[i:])
			slices.Reverse(later)
			expect(t, c, fmt.Sprintf("fault %d and all later ones", i), later...)
		}
	}
}

func TestCriesAreAskedOneByOne(t *testing.T) {
	b := row()
	b.Walks[1][2] = round.None
	for i, x := range []struct {
		round []round.Cry
		e     api.Errno
	}{
		{[]round.Cry{cry(1, 0), cry(0, 0), cry(1, 1)}, api.OK},
		{[]round.Cry{cry(2, 0), cry(5, 0)}, api.ErrNone},
		{[]round.Cry{cry(5, 0), cry(2, 0)}, api.ErrAbsent},
		{[]round.Cry{cry(2, 7)}, api.ErrAbsent},
		{[]round.Cry{cry(1, 0), cry(1, 0), cry(2, 0), cry(0, -1)}, api.ErrNone},
		{[]round.Cry{cry(math.MaxInt, math.MinInt)}, api.ErrAbsent},
	} {
		for _, c := range calls()[3:6] {
			if results, e := c.do(args{b: b, round: x.round}); e != x.e || e != api.OK && !zero(results) {
				t.Error(i, c.name, results, e)
			}
		}
	}
}

func TestPairsAreAskedOneByOne(t *testing.T) {
	for i, x := range []struct {
		pairs []round.Pair
		e     api.Errno
	}{
		{[]round.Pair{pair(1, 1)}, api.OK},
		{[]round.Pair{pair(0, 2), pair(1, 1), pair(0, 0)}, api.OK},
		{[]round.Pair{pair(0, 2), pair(0, 2), pair(1, 2)}, api.ErrTwice},
		{[]round.Pair{pair(0, 2), pair(1, 2), pair(0, 2)}, api.ErrAbsent},
		{[]round.Pair{pair(1, 2), pair(1, 2)}, api.ErrAbsent},
		{[]round.Pair{pair(2, 0)}, api.ErrAbsent},
		{[]round.Pair{pair(math.MinInt, math.MaxInt)}, api.ErrAbsent},
	} {
		if is, e := round.Together(row(), x.pairs); e != x.e || is != (e == api.OK) {
			t.Error(i, is, e)
		}
	}
}

// oddBeats returns some of all kinds, most of them wrong.
func oddBeats() []round.Beat {
	all := []round.Beat{row(), widest(), {}, {Houses: 1}, {Walks: [][]int{{0}}, Hears: [][]int{nil}, Houses: 1}, {Notices: make([]round.Notice, 2)},
		{Walks: make([][]int, 3), Hears: make([][]int, 3), Houses: 2}, {Walks: [][]int{{0, 1}, {1}}, Hears: make([][]int, 2), Houses: 2}}
	for _, n := range list(math.MinInt, -1, 0, 5, 6, 201, math.MaxInt) {
		for _, change := range []func(*round.Beat){
			func(b *round.Beat) { b.Houses = n },
			func(b *round.Beat) { b.Start = n },
			func(b *round.Beat) { b.Walks[0][1] = n },
			func(b *round.Beat) { b.Hears[1] = list(0, n) },
			func(b *round.Beat) { b.Notices[0].Quarter = list(n, n) },
			func(b *round.Beat) { b.Notices[0].Words = n },
			func(b *round.Beat) { b.Notices[0].Hour = n },
		} {
			b := row()
			change(&b)
			all = append(all, b)
		}
	}
	return all
}

func TestNothingPanics(t *testing.T) {
	numbers := list(math.MinInt, -1, 0, 2, 5, 20, 200, math.MaxInt)
	for _, b := range oddBeats() {
		for _, n := range numbers {
			for _, m := range numbers {
				x := args{b, n, m, []round.Cry{cry(n, m), cry(m, n)}, pair(n, m), []round.Pair{pair(m, n), pair(n, n)}, n, m, m}
				for _, c := range calls() {
					if results, e := c.do(x); e != api.OK && !zero(results) {
						t.Errorf("%s of %v: %v beside error %d", c.name, x, results, e)
					}
				}
			}
			if round.Check(b) != api.OK {
				break
			}
		}
	}
}

func TestEmptyListsAreTheSame(t *testing.T) {
	for _, c := range calls() {
		for _, change := range []func(x *args, empty []int){
			func(x *args, empty []int) { x.b.Hears[0], x.b.Hears[1] = empty, empty },
			func(x *args, empty []int) { x.b.Notices[1].Quarter = empty },
			func(x *args, empty []int) { x.b.Walks[1] = empty },
		} {
			x, y := good(c.name), good(c.name)
			x.round, x.pairs, x.b.Notices = nil, nil, append(x.b.Notices, notice(1, 9, 0))
			y.round, y.pairs, y.b.Notices = []round.Cry{}, []round.Pair{}, append(y.b.Notices, notice(1, 9, 0))
			change(&x, nil)
			change(&y, list())
			sameCall(t, c, x, y)
		}
		x, y := good(c.name), good(c.name)
		x.b.Notices, y.b.Notices = nil, []round.Notice{}
		sameCall(t, c, x, y)
		x.b.Walks, y.b.Walks, x.b.Hears, y.b.Hears = nil, [][]int{}, nil, [][]int{}
		sameCall(t, c, x, y)
	}
}

// sameCall checks that a call of two arguments comes to the same.
func sameCall(t *testing.T, c call, x, y args) {
	t.Helper()
	r, e := c.do(x)
	s, f := c.do(y)
	if e != f || fmt.Sprint(r) != fmt.Sprint(s) {
		t.Errorf("%s: %v, error %d; %v, error %d", c.name, r, e, s, f)
	}
}

// memory returns all lists that a value has, or that are in its lists.
func memory(v reflect.Value) []reflect.Value {
	var all []reflect.Value
	switch v.Kind() {
	case reflect.Slice:
		all = append(all, v)
		for i := range v.Len() {
			all = append(all, memory(v.Index(i))...)
		}
	case reflect.Struct:
		for i := range v.NumField() {
			all = append(all, memory(v.Field(i))...)
		}
	}
	return all
}

// meets reports whether two lists share memory, up to what lies behind their ends.
func meets(a, b reflect.Value) bool {
	from, to := a.Pointer(), a.Pointer()+uintptr(a.Cap())*a.Type().Elem().Size()
	start, end := b.Pointer(), b.Pointer()+uintptr(b.Cap())*b.Type().Elem().Size()
	return a.Cap() > 0 && b.Cap() > 0 && from < end && start < to
}

func TestResultsShareNoMemory(t *testing.T) {
	for _, c := range calls() {
		x := good(c.name)
		results, _ := c.do(x)
		again, _ := c.do(x)
		given := memory(reflect.ValueOf(args{b: x.b}).Field(0))
		given = append(given, reflect.ValueOf(x.round), reflect.ValueOf(x.pairs))
		for _, r := range again {
			given = append(given, memory(reflect.ValueOf(r))...)
		}
		var told []reflect.Value
		for _, r := range results {
			told = append(told, memory(reflect.ValueOf(r))...)
		}
		for i, a := range told {
			for _, b := range slices.Concat(given, told[i+1:]) {
				if meets(a, b) {
					t.Errorf("%s: %v shares memory with %v", c.name, a, b)
				}
			}
		}
	}
}

// roomy returns arguments whose lists have something behind their ends, which is not the function's.
func roomy(x args) args {
	x.round = append(slices.Clone(x.round), cry(77, 77))[:len(x.round)]
	x.pairs = append(slices.Clone(x.pairs), pair(77, 77))[:len(x.pairs)]
	for _, lists := range [][][]int{x.b.Walks, x.b.Hears} {
		for i, l := range lists {
			lists[i] = append(slices.Clone(l), 77)[:len(l)]
		}
	}
	for i, n := range x.b.Notices {
		x.b.Notices[i].Quarter = append(slices.Clone(n.Quarter), 77)[:len(n.Quarter)]
	}
	x.b.Notices = append(slices.Clone(x.b.Notices), notice(77, 77))[:len(x.b.Notices)]
	return x
}

// behind returns what lies behind the ends of lists.
func behind(x args) string {
	said := fmt.Sprint(x.round[:len(x.round)+1], x.pairs[:len(x.pairs)+1], x.b.Notices[:len(x.b.Notices)+1])
	for _, l := range slices.Concat(x.b.Walks, x.b.Hears) {
		said += fmt.Sprint(l[:len(l)+1])
	}
	for _, n := range x.b.Notices {
		said += fmt.Sprint(n.Quarter[:len(n.Quarter)+1])
	}
	return said
}

func TestArgumentsStay(t *testing.T) {
	for _, c := range calls() {
		x := roomy(good(c.name))
		before, ends := x.clone(), behind(x)
		r, e := c.do(x)
		if !reflect.DeepEqual(x, before) || behind(x) != ends {
			t.Errorf("%s changed its arguments: %v, were %v", c.name, x, before)
		}
		if s, f := c.do(x); e != f || fmt.Sprint(r) != fmt.Sprint(s) {
			t.Errorf("%s: %v, and then %v", c.name, r, s)
		}
	}
}

func TestNothingIsKept(t *testing.T) {
	other := good("")
	other.b, other.round, other.pairs, other.notice, other.minute = widest(), []round.Cry{cry(4, 2)}, []round.Pair{pair(2, 4)}, 2, 60
	for _, c := range calls() {
		r, e := c.do(good(c.name))
		for _, d := range calls() {
			d.do(other)
		}
		if s, f := c.do(good(c.name)); e != f || fmt.Sprint(r) != fmt.Sprint(s) {
			t.Errorf("%s: %v, error %d, and then %v, error %d", c.name, r, e, s, f)
		}
	}
}
