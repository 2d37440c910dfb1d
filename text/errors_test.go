package text_test

import (
	"fmt"
	"math"
	"reflect"
	"slices"
	"testing"

	"oyez/api"
	"oyez/text"
)

// fault makes something in the arguments wrong.
type fault struct {
	e  api.Errno
	do func(*args)
}

func faultsOfText() []fault {
	return []fault{
		{api.ErrCount, func(x *args) { x.t.Words = nil }},
		{api.ErrCount, func(x *args) { x.t.Words = append(x.t.Words, ones(13)...) }},
		{api.ErrCount, func(x *args) { x.t.Turns = make([]text.Turn, 7) }},
		{api.ErrRange, func(x *args) { x.t.Breath = 0 }},
		{api.ErrRange, func(x *args) { x.t.Breath = 41 }},
		{api.ErrRange, func(x *args) { setWord(x, word(0, 0, true)) }},
		{api.ErrRange, func(x *args) { setWord(x, word(10, 0, true)) }},
		{api.ErrRange, func(x *args) { setWord(x, word(1, -1, true)) }},
		{api.ErrRange, func(x *args) { setWord(x, word(1, 21, true)) }},
		{api.ErrAbsent, func(x *args) { setTurn(x, 0, turn(-1, 4, 5)) }},
		{api.ErrAbsent, func(x *args) { setTurn(x, 0, turn(3, 4, 30)) }},
		{api.ErrAbsent, func(x *args) { setTurn(x, 0, turn(3, -1, 5)) }},
		{api.ErrOrder, func(x *args) { setTurn(x, 1, turn(3, 5, 4)) }},
		{api.ErrClash, func(x *args) { setTurn(x, 2, turn(4, 4, 5)) }},
	}
}

// setWord makes the last word another one, if there is any.
func setWord(x *args, w text.Word) {
	if n := len(x.t.Words); n > 0 {
		x.t.Words[n-1] = w
	}
}

// setTurn makes a turn another one; those ahead of it stay, or say what is right.
func setTurn(x *args, i int, u text.Turn) {
	for len(x.t.Turns) <= i {
		x.t.Turns = append(x.t.Turns, turn(3, 4, 7))
	}
	x.t.Turns[i] = u
}

func faultsOfPart() []fault {
	return []fault{
		{api.ErrAbsent, func(x *args) { x.part = span(-1, 3) }},
		{api.ErrAbsent, func(x *args) { x.part = span(3, 8) }},
		{api.ErrAbsent, func(x *args) { x.part = span(9, 2) }},
		{api.ErrOrder, func(x *args) { x.part = span(5, 4) }},
	}
}

func faultsOfReading() []fault {
	return []fault{
		{api.ErrRange, func(x *args) { x.reading = list(8, 0) }},
		{api.ErrRange, func(x *args) { x.reading = list(13) }},
		{api.ErrRange, func(x *args) { x.reading = list(2, -1, 7) }},
		{api.ErrCount, func(x *args) { x.reading = nil }},
		{api.ErrCount, func(x *args) { x.reading = list(4, 3) }},
		{api.ErrCount, func(x *args) { x.reading = list(4, 5) }},
	}
}

func faultsOfKept() []fault {
	return []fault{
		{api.ErrCount, func(x *args) { x.kept = nil }},
		{api.ErrAbsent, func(x *args) { x.kept = list(1, 8) }},
		{api.ErrAbsent, func(x *args) { x.kept = list(3, 1, -1) }},
		{api.ErrOrder, func(x *args) { x.kept = list(4, 4) }},
		{api.ErrOrder, func(x *args) { x.kept = list(5, 4) }},
	}
}

func faultsOfMarks() []fault {
	return []fault{
		{api.ErrCount, func(x *args) { x.marks = make([]int, 8) }},
		{api.ErrCount, func(x *args) { x.marks = make([]int, 10) }},
		{api.ErrCount, func(x *args) { x.marks = nil }},
		{api.ErrRange, func(x *args) { x.marks = list(0, 0, 0, 0, 0, 0, 0, 0, -1) }},
		{api.ErrRange, func(x *args) { x.marks = list(1, 0, 0, 0, 0, 0, 0, 0, 100) }},
		{api.ErrFalse, func(x *args) { x.marks = list(1, 0, 0, 0, 0, 0, 0, 0, 0) }},
		{api.ErrFalse, func(x *args) { x.marks = list(0, 0, 0, 0, 0, 0, 0, 0, 9) }},
	}
}

// unreadable makes all breaths too long.
func unreadable(x *args) {
	if n := len(x.t.Words); n > 0 {
		x.t.Breath = 1
		x.t.Words[n-1].Syllables = 9
	}
}

// faults returns what can be wrong in a call, in the order of the chapter's table of errors.
func faults(name string) []fault {
	all := faultsOfText()
	switch name {
	case "Says":
		all = append(all, faultsOfPart()...)
	case "Wrong":
		all = append(append(all, faultsOfReading()...), fault{api.ErrNone, func(x *args) { x.reading = list(2, 4, 2) }})
	case "Fewest", "Never", "Marks", "Even", "Surest":
		all = append(all, fault{api.ErrNone, unreadable})
	case "Shows":
		all = append(all, faultsOfMarks()...)
	case "Astray":
		all = append(append(all, faultsOfReading()...),
			fault{api.ErrFalse, func(x *args) { x.reading = list(3, 5) }},
			fault{api.ErrNone, func(x *args) { x.reading = list(2, 4, 2) }})
	case "Keeps":
		all = append(all, faultsOfKept()...)
	case "Shorter":
		all = append(append(all, faultsOfKept()...), fault{api.ErrFalse, func(x *args) { x.kept = list(4, 5, 6, 7) }})
	case "Least":
		all = append(all,
			fault{api.ErrRange, func(x *args) { x.weight = -1 }},
			fault{api.ErrNone, func(x *args) { x.weight = 16 }})
	case "Price":
		all = append(all,
			fault{api.ErrRange, func(x *args) { x.pence = 0 }},
			fault{api.ErrRange, func(x *args) { x.pence = 101 }})
	}
	return all
}

// expect checks the error of a call with faults of which the last one decides, and that there is no result beside it.
func expect(t *testing.T, c call, what string, faults ...fault) {
	t.Helper()
	x := good()
	if c.name == "Wrong" {
		x.reading = list(3, 5)
	}
	for _, f := range faults {
		f.do(&x)
	}
	results, e := c.do(x)
	if want := faults[len(faults)-1].e; e != want || !zero(results) {
		t.Errorf("%s with %s: %v, error %d, want %d", c.name, what, results, e, want)
	}
}

func TestEachErrorAlone(t *testing.T) {
	for _, c := range calls() {
		x := good()
		if c.name == "Wrong" {
			x.reading = list(3, 5)
		}
		if _, e := c.do(x); e != api.OK {
			t.Errorf("%s of what is right: error %d", c.name, e)
		}
		for i, f := range faults(c.name) {
			expect(t, c, fmt.Sprint("fault ", i), f)
		}
	}
}

func TestOrderOfErrors(t *testing.T) {
	for _, c := range calls() {
		all := faults(c.name)
		for i := range all {
			for j := i + 1; j < len(all); j++ {
				expect(t, c, fmt.Sprintf("faults %d and %d", i, j), all[j], all[i])
			}
			later := slices.Clone(all[i:])
			slices.Reverse(later)
			expect(t, c, fmt.Sprintf("fault %d and all later ones", i), later...)
		}
	}
}

// odd yields arguments of all kinds, most of them wrong.
func odd(yield func(args)) {
	numbers := list(math.MinInt, -1, 0, 1, 3, 8, 12, 13, 99, 100, math.MaxInt)
	for _, t := range []text.Text{gate(5), gate(7), plain(1, 1), plain(1, 2), {}, {Breath: 5}, {Words: ones(2), Breath: math.MaxInt},
		{Words: ones(2), Breath: math.MinInt}, {Words: ones(13), Breath: 3}, {Words: []text.Word{word(math.MaxInt, math.MinInt, true)}, Breath: 4},
		{Words: ones(4), Turns: make([]text.Turn, 6), Breath: 4}, {Turns: make([]text.Turn, 1), Breath: 4}} {
		for _, n := range numbers {
			for _, m := range numbers {
				x := args{t, span(n, m), list(n, m), list(m, n), list(n, m), n, m}
				yield(x)
				x.t = clone(t)
				x.t.Turns = append(x.t.Turns, turn(n, m, n), turn(m, n, n))
				x.reading, x.marks, x.kept = list(n), list(n), list(n)
				yield(x)
			}
		}
	}
}

func TestNothingPanics(t *testing.T) {
	odd(func(x args) {
		for _, c := range calls() {
			if results, e := c.do(x); e != api.OK && !zero(results) {
				t.Errorf("%s of %v: %v beside error %d", c.name, x, results, e)
			}
		}
	})
}

func TestEmptyListsAreTheSame(t *testing.T) {
	for _, c := range calls() {
		for _, words := range [][]text.Word{nil, {}, ones(3)} {
			x, y := good(), good()
			x.t.Words, y.t.Words = words, words
			x.t.Turns, x.reading, x.marks, x.kept = nil, nil, nil, nil
			y.t.Turns, y.reading, y.marks, y.kept = []text.Turn{}, list(), list(), list()
			if words == nil {
				y.t.Words = []text.Word{}
			}
			r, e := c.do(x)
			s, f := c.do(y)
			if e != f || fmt.Sprint(r) != fmt.Sprint(s) {
				t.Errorf("%s: %v, error %d; %v, error %d", c.name, r, e, s, f)
			}
		}
	}
}

// spoil changes all memory that results have.
func spoil(results []any) {
	for _, r := range results {
		switch v := r.(type) {
		case []int:
			for i := range v {
				v[i] = -7
			}
		case text.Text:
			for i := range v.Words {
				v.Words[i].Syllables = -7
			}
			for i := range v.Turns {
				v.Turns[i].Word = -7
			}
		}
	}
}

func TestArgumentsStayAndResultsAreNew(t *testing.T) {
	whole := good()
	whole.kept, whole.weight = listOf(words(0, 7)), 15
	for _, y := range []args{good(), whole} {
		for _, c := range calls() {
			x := y.clone()
			// What lies behind the end of a list is not the function's, either.
			x.reading, x.marks, x.kept = append(x.reading, 77)[:len(x.reading)], append(x.marks, 77)[:len(x.marks)], append(x.kept, 77)[:len(x.kept)]
			before := x.clone()
			results, _ := c.do(x)
			told := fmt.Sprint(results)
			spoil(results)
			for _, l := range [][]int{x.reading, x.marks, x.kept} {
				if l[:len(l)+1][len(l)] != 77 {
					t.Errorf("%s wrote behind the end of a list: %v", c.name, l)
				}
			}
			if !reflect.DeepEqual(x, before) {
				t.Errorf("%s changed its arguments, or gave them out: %v, were %v", c.name, x, before)
			}
			if results, _ := c.do(x); fmt.Sprint(results) != told {
				t.Errorf("%s: %v, and then %v", c.name, told, results)
			}
		}
	}
}

func TestNothingIsKept(t *testing.T) {
	other := good()
	other.t, other.reading, other.marks, other.kept, other.weight = plain(2, 1, 1, 1), list(1, 2), list(0, 1, 1, 2), list(2), 0
	for _, c := range calls() {
		r, e := c.do(good())
		for _, d := range calls() {
			d.do(other)
		}
		if s, f := c.do(good()); e != f || fmt.Sprint(r) != fmt.Sprint(s) {
			t.Errorf("%s: %v, error %d, and then %v, error %d", c.name, r, e, s, f)
		}
	}
}
