package file_test

import (
	"fmt"
	"math"
	"reflect"
	"slices"
	"strings"
	"testing"

	"oyez/api"
	"oyez/file"
)

// fault makes something in the arguments wrong.
type fault struct {
	e  api.Errno
	do func(*args)
}

// wrongKinds, wrongNumbers and so on are what is not allowed in a record.
func wrongKinds() []file.Kind { return []file.Kind{-1, 5, math.MinInt, math.MaxInt} }
func wrongNumbers() []int     { return []int{-1, 1000, math.MinInt, math.MaxInt} }
func tooManyWords() [][]string {
	return [][]string{words(1, 1, 1, 1, 1, 1, 1), words(12, 12, 12, 12, 12, 12, 12, 99)}
}
func wrongWord() []string {
	return []string{"", "A", "a b", " ", "a\n", "a,", "ä", "a\x00", "\xff", "aaaaaaaaaaaaa", strings.Repeat("a", 1<<16)}
}
func tooLong() [][]string {
	return [][]string{words(12, 12, 12, 12, 12), words(12, 12, 12, 12, 12, 12)}
}

// faultsOfWords are those of the words of a record that pick finds in the arguments, in the order of the chapter's table, as
// all lists of faults are.
func faultsOfWords(pick func(*args) *[]string) []fault {
	var all []fault
	for _, l := range tooManyWords() {
		all = append(all, fault{api.ErrCount, func(x *args) { *pick(x) = slices.Clone(l) }})
	}
	for _, word := range wrongWord() {
		all = append(all, fault{api.ErrForm, func(x *args) {
			if l := *pick(x); len(l) == 0 || len(l) > 6 {
				*pick(x) = []string{"a"}
			}
			l := *pick(x)
			l[len(l)-1] = word
		}})
	}
	for _, l := range tooLong() {
		all = append(all, fault{api.ErrLong, func(x *args) { *pick(x) = slices.Clone(l) }})
	}
	return all
}

// faultsOfRecord are those of a record alone.
func faultsOfRecord(pick func(*args) *file.Record) []fault {
	var all []fault
	for _, kind := range wrongKinds() {
		all = append(all, fault{api.ErrVerb, func(x *args) { pick(x).Kind = kind }})
	}
	for _, n := range wrongNumbers() {
		all = append(all, fault{api.ErrRange, func(x *args) { pick(x).Number = n }})
	}
	return append(all, faultsOfWords(func(x *args) *[]string { return &pick(x).Words })...)
}

// faultsOfFile are those of the last record of a file that has two at least.
func faultsOfFile(pick func(*args) *[]file.Record) []fault {
	last := func(x *args) *file.Record { f := *pick(x); return &f[len(f)-1] }
	return slices.Concat(
		[]fault{
			{api.ErrCount, func(x *args) { *pick(x) = many(41) }},
			{api.ErrCount, func(x *args) { *pick(x) = make([]file.Record, 100) }},
		},
		faultsOfRecord(last),
		[]fault{
			{api.ErrOrder, func(x *args) { last(x).Kind, last(x).Number = (*pick(x))[0].Kind, (*pick(x))[0].Number }},
			{api.ErrOrder, func(x *args) { last(x).Kind = file.Stand }},
			{api.ErrOrder, func(x *args) { last(x).Kind, last(x).Number = (*pick(x))[0].Kind, 0 }},
		})
}

func ofF(x *args) *[]file.Record { return &x.f }
func ofA(x *args) *[]file.Record { return &x.a }
func ofB(x *args) *[]file.Record { return &x.b }
func ofL(x *args) *[]file.Change { return &x.l }
func ofM(x *args) *[]file.Change { return &x.m }

func ofR(x *args) *file.Record { return &x.r }

func faultsOfPut() []fault {
	return append(faultsOfRecord(ofR), fault{api.ErrCount, func(x *args) { x.f = many(40) }})
}

func faultsOfPlace() []fault {
	var all []fault
	for _, p := range places(at(file.Notice, 4), at(file.Find, 3), at(-1, 3), at(5, 0), at(file.Fee, -12), at(math.MaxInt, math.MinInt)) {
		all = append(all, fault{api.ErrAbsent, func(x *args) { x.p = p }})
	}
	return all
}

// faultsOfChange are those of a change alone.
func faultsOfChange(pick func(*args) *file.Change) []fault {
	var all []fault
	for _, kind := range wrongKinds() {
		all = append(all, fault{api.ErrVerb, func(x *args) { pick(x).Kind = kind }})
	}
	for _, n := range wrongNumbers() {
		all = append(all, fault{api.ErrRange, func(x *args) { pick(x).Number = n }})
	}
	return slices.Concat(all,
		faultsOfWords(func(x *args) *[]string { return &pick(x).Old }),
		faultsOfWords(func(x *args) *[]string { return &pick(x).New }),
		[]fault{
			{api.ErrFalse, func(x *args) { pick(x).Had, pick(x).Old = false, []string{"x"} }},
			{api.ErrFalse, func(x *args) { pick(x).Has, pick(x).New = false, []string{"x"} }},
			{api.ErrFalse, func(x *args) { pick(x).Had, pick(x).Has, pick(x).Old, pick(x).New = false, false, nil, nil }},
			{api.ErrFalse, func(x *args) { pick(x).Had, pick(x).Has, pick(x).Old, pick(x).New = true, true, nil, []string{} }},
			{api.ErrFalse, func(x *args) { pick(x).Had, pick(x).Has, pick(x).Old = true, true, slices.Clone(pick(x).New) }},
		})
}

// faultsOfChanges are those of the last one of two changes at least.
func faultsOfChanges(pick func(*args) *[]file.Change) []fault {
	last := func(x *args) *file.Change { l := *pick(x); return &l[len(l)-1] }
	return slices.Concat(
		[]fault{
			{api.ErrCount, func(x *args) { *pick(x) = adding(81, 0) }},
			{api.ErrCount, func(x *args) { *pick(x) = make([]file.Change, 100) }},
		},
		faultsOfChange(last),
		[]fault{
			{api.ErrOrder, func(x *args) { last(x).Kind, last(x).Number = (*pick(x))[0].Kind, (*pick(x))[0].Number }},
			{api.ErrOrder, func(x *args) { last(x).Kind, last(x).Number = (*pick(x))[0].Kind, 0 }},
		})
}

func faultsOfMaking() []fault {
	return []fault{
		{api.ErrClash, func(x *args) { x.l[1].Old[0] = "ebb" }},
		{api.ErrClash, func(x *args) { x.l[1].Old = nil }},
		{api.ErrClash, func(x *args) { x.l[1].Old = append(x.l[1].Old, "x") }},
		{api.ErrClash, func(x *args) { x.l[1].Had, x.l[1].Old = false, nil }},
		{api.ErrClash, func(x *args) { x.l[0].Had = true }},
		{api.ErrClash, func(x *args) { x.l[1].Number = 4 }},
		{api.ErrClash, func(x *args) { x.f[0].Words = nil }},
		{api.ErrClash, func(x *args) { x.f[0] = rec(file.Stand, 99, "") }},
		{api.ErrCount, func(x *args) { x.f = append(x.f[:1], many(39)...) }},
	}
}

func faultsOfAfter() []fault {
	return []fault{
		{api.ErrClash, func(x *args) { x.m[1].Old[0] = "ebb" }},
		{api.ErrClash, func(x *args) { x.m[1].Old = nil }},
		{api.ErrClash, func(x *args) { x.m[1].Had, x.m[1].Old = false, nil }},
		{api.ErrClash, func(x *args) { x.m[0] = add(file.Stand, 1, "quay") }},
		{api.ErrClash, func(x *args) { x.l[0] = drop(file.Stand, 1, "quay") }},
		{api.ErrClash, func(x *args) { x.l[0].New = nil }},
		{api.ErrCount, func(x *args) { x.l, x.m = append(x.l, adding(78, 0)...), append(x.m, adding(78, 1)...) }},
	}
}

// faultsOfCopies is that the copies, which have no conflict, have too many records together.
func faultsOfCopies() []fault {
	return []fault{{api.ErrCount, func(x *args) {
		x.a = slices.Insert(cloneFile(x.f), 1, many(38)...)
		x.b = append(cloneFile(x.f), rec(file.Plea, 0, ""))
		x.second = nil
	}}}
}

func faultsOfChoices() []fault {
	return []fault{
		{api.ErrCount, func(x *args) { x.second = nil }},
		{api.ErrCount, func(x *args) { x.second = []bool{true, true} }},
		{api.ErrCount, func(x *args) { x.second = make([]bool, 1<<16) }},
		{api.ErrCount, func(x *args) { x.b = cloneFile(x.f) }},
	}
}

func faultsOfText() []fault {
	return []fault{
		{api.ErrCount, func(x *args) { x.text = print(many(41)) }},
		{api.ErrLong, func(x *args) { x.text = strings.Repeat("a", 1<<16) }},
		{api.ErrForm, func(x *args) { x.text = "notice 3 tide at six" }},
		{api.ErrVerb, func(x *args) { x.text = "\n" }},
		{api.ErrForm, func(x *args) { x.text = "fee\n" }},
		{api.ErrCount, func(x *args) { x.text = "fee 1 a b c d e f g\n" }},
		{api.ErrForm, func(x *args) { x.text = "fee 1 \n" }},
		{api.ErrOrder, func(x *args) { x.text = "fee 1\nfee 1\n" }},
	}
}

func faultsOfBody() []fault {
	return []fault{
		{api.ErrLong, func(x *args) { x.body = strings.Repeat("a", 4097) }},
		{api.ErrLong, func(x *args) { x.body = strings.Repeat("a\n", 4096) }},
		{api.ErrForm, func(x *args) { x.body = "" }},
		{api.ErrForm, func(x *args) { x.body = "fee 1" }},
		{api.ErrForm, func(x *args) { x.body = strings.Repeat("\n", 4095) + "a" }},
	}
}

// wrongForms are texts that have not the form of a sealed text.
func wrongForms() []string {
	return []string{
		"", "\n", "\n\n", "a", "seal 10 10\n", "fee 1\n", "fee 1\nseal 395 1040", "fee 1\nseal 395 1040\n\n", "fee 1\nseal 395 1040 \n",
		"fee 1\nseal 395\n", "fee 1\nseal 395 1040 0\n", "fee 1\nseal  395 1040\n", "fee 1\n seal 395 1040\n", "fee 1\nseal 0395 1040\n",
		"fee 1\nseal 395 01040\n", "fee 1\nseal +395 1040\n", "fee 1\nseal -395 1040\n", "fee 1\nseal 395 65537\n", "fee 1\nseal 65537 1040\n",
		"fee 1\nseal 395 99999999999999999999\n", "fee 1\nSeal 395 1040\n", "fee 1\nfee 395 1040\n", "fee 1\nseal 395 1040\r\n", "fee 1\nseal 395 104a\n",
		"fee 1\nseal  1040\n", "fee 1\nseal 395 \n", "fee 1seal 395 1040\n", "fee 1\n395 1040\n", strings.Repeat("a", 4096) + "\nseal 1 1\n", strings.Repeat("a", 4116),
	}
}

func faultsOfSeal(pick func(*args) *string) []fault {
	all := []fault{
		{api.ErrLong, func(x *args) { *pick(x) = strings.Repeat("a", 4117) }},
		{api.ErrLong, func(x *args) { *pick(x) = sealed(strings.Repeat("\n", 4117)) }},
	}
	for _, text := range wrongForms() {
		all = append(all, fault{api.ErrForm, func(x *args) { *pick(x) = text }})
	}
	return all
}

func ofSealed(x *args) *string { return &x.sealed }
func ofWrong(x *args) *string  { return &x.wrong }

// faults returns what can be wrong in a call.
func faults(name string) []fault {
	switch name {
	case "Check", "Print":
		return faultsOfFile(ofF)
	case "Parse":
		return faultsOfText()
	case "Get", "Drop":
		return slices.Concat(faultsOfFile(ofF), faultsOfPlace())
	case "Put":
		return slices.Concat(faultsOfFile(ofF), faultsOfPut())
	case "CheckChanges", "Back":
		return faultsOfChanges(ofL)
	case "Diff":
		return slices.Concat(faultsOfFile(ofF), faultsOfFile(ofA))
	case "Make":
		return slices.Concat(faultsOfFile(ofF), faultsOfChanges(ofL), faultsOfMaking())
	case "After":
		return slices.Concat(faultsOfChanges(ofL), faultsOfChanges(ofM), faultsOfAfter())
	case "Join":
		return slices.Concat(faultsOfFile(ofF), faultsOfFile(ofA), faultsOfFile(ofB), faultsOfCopies())
	case "Settle":
		return slices.Concat(faultsOfFile(ofF), faultsOfFile(ofA), faultsOfFile(ofB), faultsOfChoices(), faultsOfCopies())
	case "Seal":
		return faultsOfBody()
	case "Open":
		return append(faultsOfSeal(ofSealed), fault{api.ErrFalse, func(x *args) { x.sealed = x.wrong }})
	}
	return append(faultsOfSeal(ofWrong),
		fault{api.ErrTwice, func(x *args) { x.wrong = x.sealed }},
		fault{api.ErrNone, func(x *args) { x.wrong = "fee 1\nseal 396 1040\n" }})
}

// expect checks the error of a call with faults of which the last one decides, and that there is no result beside it.
func expect(t *testing.T, c call, what string, faults ...fault) {
	t.Helper()
	x := good().clone()
	for _, f := range faults {
		f.do(&x)
	}
	result, e := c.do(x)
	if want := faults[len(faults)-1].e; e != want || !zero(result) {
		t.Errorf("%s with %s: %v, error %d, want %d", c.name, what, result, e, want)
	}
}

func TestEachErrorAlone(t *testing.T) {
	for _, c := range calls() {
		if result, e := c.do(good()); e != api.OK || len(result) > 0 && zero(result) {
			t.Errorf("%s of what is right: %v, error %d", c.name, result, e)
		}
		for i, f := range faults(c.name) {
			expect(t, c, fmt.Sprint("fault ", i), f)
		}
	}
}

func TestOrderOfErrors(t *testing.T) {
	for _, c := range calls() {
		all := faults(c.name)
		for i := range all {
			for j := i + 1; j < len(all); j++ {
				if all[j].e != all[i].e {
					expect(t, c, fmt.Sprintf("faults %d and %d", i, j), all[j], all[i])
				}
			}
		}
	}
}

// TestTheFirstRecordDecides asks also where a later record, or change, has an error that the chapter names before.
func TestTheFirstRecordDecides(t *testing.T) {
	first := func(x *args) *file.Record { return &x.f[0] }
	second := func(x *args) *file.Record { return &x.f[1] }
	firstChange := func(x *args) *file.Change { return &x.l[0] }
	secondChange := func(x *args) *file.Change { return &x.l[1] }
	for _, c := range calls() {
		switch c.name {
		case "Check", "Print", "Get", "Put", "Drop", "Diff", "Join", "Settle":
			for i, f := range faultsOfRecord(first) {
				for j, g := range faultsOfRecord(second) {
					expect(t, c, fmt.Sprintf("faults %d and, of a later record, %d", i, j), g, f)
				}
			}
		case "CheckChanges", "Make", "Back", "After":
			for i, f := range faultsOfChange(firstChange) {
				for j, g := range faultsOfChange(secondChange) {
					expect(t, c, fmt.Sprintf("faults %d and, of a later change, %d", i, j), g, f)
				}
			}
		}
	}
}

// oddArgs returns arguments of all kinds, most of them wrong.
func oddArgs() []args {
	full := good()
	full.f, full.a, full.b, full.l, full.m = many(40), many(41), many(39), adding(80, 1), adding(81, 0)
	all := []args{{}, full}
	odd := []int{math.MinInt, -1, 0, 1, 5, 999, 1000, math.MaxInt}
	for _, m := range odd {
		for _, n := range odd {
			p := at(file.Kind(m), n)
			x := good().clone()
			x.f[1].Kind, x.a[0].Number, x.b[1].Kind, x.l[0].Kind, x.m[1].Number, x.p, x.r.Kind = p.Kind, n, p.Kind, p.Kind, n, p, p.Kind
			all = append(all, x)
			x = good().clone()
			x.r = file.Record{Kind: p.Kind, Number: n, Words: words(m&3, n&15)}
			x.l[1].New, x.m[1].Old, x.second = words(m&15, n&15), words(n&7), make([]bool, n&3)
			all = append(all, x)
		}
	}
	for _, text := range slices.Concat(wrongForms(), wrongWord()) {
		x := good().clone()
		x.text, x.body, x.sealed, x.wrong = text, text, text, text
		x.f[0].Words, x.l[1].Old, x.m[0].Old, x.r.Words = []string{text}, []string{text}, []string{text}, []string{text}
		all = append(all, x)
	}
	return all
}

func TestNothingPanics(t *testing.T) {
	for _, x := range oddArgs() {
		for _, c := range calls() {
			if result, e := c.do(x); e != api.OK && !zero(result) {
				t.Errorf("%s of %v: %v beside error %d", c.name, x, result, e)
			}
		}
	}
}

func TestLongListsEnd(t *testing.T) {
	long := strings.Repeat("a", 1<<20)
	for _, x := range []struct {
		e     api.Errno
		calls string
		do    func(*args)
	}{
		{api.ErrCount, "Check Print Get Put Drop Diff Make Join Settle", func(x *args) { x.f = slices.Repeat(x.f, 1<<16) }},
		{api.ErrCount, "Check Print Get Put Drop Diff Make Join Settle", func(x *args) { x.f[0].Words = slices.Repeat(x.f[0].Words, 1<<16) }},
		{api.ErrForm, "Put", func(x *args) { x.r.Words = []string{long, long} }},
		{api.ErrCount, "CheckChanges Make Back After", func(x *args) { x.l = slices.Repeat(x.l, 1<<16) }},
		{api.ErrCount, "After", func(x *args) { x.m[0].Old = slices.Repeat(x.m[0].Old, 1<<16) }},
		{api.ErrCount, "Settle", func(x *args) { x.second = make([]bool, 1<<20) }},
		{api.ErrLong, "Parse Seal Open Mend", func(x *args) { x.text, x.body, x.sealed, x.wrong = long, long, long, long }},
		{api.ErrOrder, "Parse", func(x *args) { x.text = strings.Repeat("fee 1\n", 1<<18) }},
		{api.ErrCount, "Parse", func(x *args) { x.text = print(many(40)) + strings.Repeat("\n", 1<<20) }},
	} {
		for _, c := range calls() {
			if slices.Contains(strings.Fields(x.calls), c.name) {
				expect(t, c, "something long", fault{x.e, x.do})
			}
		}
	}
}

// sameCall checks that a call of two arguments comes to the same.
func sameCall(t *testing.T, c call, x, y args) {
	t.Helper()
	r, e := c.do(x)
	o, f := c.do(y)
	if e != f || fmt.Sprint(r) != fmt.Sprint(o) {
		t.Errorf("%s: %v, error %d; %v, error %d", c.name, r, e, o, f)
	}
}

func TestEmptyListsAreTheSame(t *testing.T) {
	none, empty := []string(nil), []string{}
	for _, c := range calls() {
		for _, change := range []func(x, y *args){
			func(x, y *args) { x.f, y.f = nil, records() },
			func(x, y *args) { x.a, y.a = nil, records() },
			func(x, y *args) { x.b, y.b = nil, records() },
			func(x, y *args) { x.f[0].Words, y.f[0].Words = none, empty },
			func(x, y *args) { x.r.Words, y.r.Words = none, empty },
			func(x, y *args) { x.l, y.l = nil, changes() },
			func(x, y *args) { x.m, y.m = nil, changes() },
			func(x, y *args) { x.l[0].Old, y.l[0].Old = none, empty },
			func(x, y *args) { x.l[1].New, y.l[1].New = none, empty },
			func(x, y *args) { x.m[0].New, y.m[0].New = none, empty },
			func(x, y *args) { x.second, y.second = nil, []bool{} },
			func(x, y *args) {
				x.a[0].Words, x.b[0].Words, x.second = none, empty, nil
				y.a[0].Words, y.b[0].Words, y.second = empty, none, nil
			},
			func(x, y *args) {
				x.f[0].Words, x.l[1].Old = none, empty
				y.f[0].Words, y.l[1].Old = empty, none
			},
			func(x, y *args) {
				x.l[1].New, x.m[1].Old = none, empty
				y.l[1].New, y.m[1].Old = empty, none
			},
		} {
			x, y := good().clone(), good().clone()
			change(&x, &y)
			sameCall(t, c, x, y)
		}
	}
	x, y := good(), good()
	x.l[1].Old, x.l[1].New = none, empty
	y.l[1].Old, y.l[1].New = empty, none
	if e, f := file.CheckChanges(x.l), file.CheckChanges(y.l); e != api.ErrFalse || f != api.ErrFalse {
		t.Error(e, f)
	}
}

// memory returns all lists that a value has, or that are in its lists.
func memory(v reflect.Value) []reflect.Value {
	var all []reflect.Value
	switch v.Kind() {
	case reflect.Interface:
		return memory(v.Elem())
	case reflect.Slice:
		all = append(all, v)
		for i := range v.Len() {
			all = append(all, memory(v.Index(i))...)
		}
	case reflect.Struct:
		for i := range v.NumField() {
			all = append(all, memory(v.Field(i))...)
		}
	}
	return all
}

// meets reports whether two lists share memory, up to what lies behind their ends.
func meets(a, b reflect.Value) bool {
	from, to := a.Pointer(), a.Pointer()+uintptr(a.Cap())*a.Type().Elem().Size()
	start, end := b.Pointer(), b.Pointer()+uintptr(b.Cap())*b.Type().Elem().Size()
	return a.Cap() > 0 && b.Cap() > 0 && from < end && start < to
}

func TestResultsShareNoMemory(t *testing.T) {
	still := good()
	still.a, still.m = cloneFile(still.f), nil
	same := good()
	same.b, same.l, same.second = cloneFile(same.a), nil, nil
	for _, c := range calls() {
		for _, x := range []args{good(), still, same} {
			result, _ := c.do(x)
			again, _ := c.do(x)
			given := slices.Concat(memory(reflect.ValueOf(x)), memory(reflect.ValueOf(again)))
			var told []reflect.Value
			for _, r := range result {
				told = append(told, memory(reflect.ValueOf(r))...)
			}
			for i, a := range told {
				for _, b := range slices.Concat(given, told[i+1:]) {
					if meets(a, b) {
						t.Errorf("%s: %v shares memory with %v", c.name, a, b)
					}
				}
			}
		}
	}
}

// withEnd returns a list with something behind its end, which is not the function's.
func withEnd[T any](l []T, end T) []T { return append(slices.Clone(l), end)[:len(l)] }

// roomy returns arguments with something behind the ends of all lists.
func roomy(x args) args {
	x = x.clone()
	for _, f := range []*[]file.Record{&x.f, &x.a, &x.b} {
		for i := range *f {
			(*f)[i].Words = withEnd((*f)[i].Words, "end")
		}
		*f = withEnd(*f, rec(file.Plea, 999, "end"))
	}
	for _, l := range []*[]file.Change{&x.l, &x.m} {
		for i := range *l {
			(*l)[i].Old, (*l)[i].New = withEnd((*l)[i].Old, "end"), withEnd((*l)[i].New, "end")
		}
		*l = withEnd(*l, add(file.Plea, 999, "end"))
	}
	x.r.Words, x.second = withEnd(x.r.Words, "end"), withEnd(x.second, true)
	return x
}

// ends returns what lies behind the ends of lists.
func ends(x args) string {
	var all []any
	for _, f := range [][]file.Record{x.f, x.a, x.b} {
		for _, r := range f {
			all = append(all, r.Words[:len(r.Words)+1])
		}
		all = append(all, f[:len(f)+1])
	}
	for _, l := range [][]file.Change{x.l, x.m} {
		for _, c := range l {
			all = append(all, c.Old[:len(c.Old)+1], c.New[:len(c.New)+1])
		}
		all = append(all, l[:len(l)+1])
	}
	return fmt.Sprint(append(all, x.r.Words[:len(x.r.Words)+1], x.second[:len(x.second)+1]))
}

func TestArgumentsStay(t *testing.T) {
	for _, c := range calls() {
		x := roomy(good())
		before, after := fmt.Sprintf("%+v", x), ends(x)
		r, e := c.do(x)
		if fmt.Sprintf("%+v", x) != before || ends(x) != after {
			t.Errorf("%s changed its arguments: %v, were %v", c.name, x, before)
		}
		if o, f := c.do(x); e != f || fmt.Sprint(r) != fmt.Sprint(o) {
			t.Errorf("%s: %v, and then %v", c.name, r, o)
		}
	}
}

func TestNothingIsKept(t *testing.T) {
	other := good()
	other.f, other.p, other.l, other.m = many(40), at(file.Find, 2), adding(0, 0), adding(40, 1)
	other.a, other.b, other.second = many(39), many(40), nil
	other.text, other.body = print(many(40)), strings.Repeat("\n", 4096)
	other.sealed, other.wrong = sealed("notice 3\n"), sealed("notice 3\n")[1:]
	for _, c := range calls() {
		r, e := c.do(good())
		for _, d := range calls() {
			d.do(other)
		}
		if o, f := c.do(good()); e != f || fmt.Sprint(r) != fmt.Sprint(o) {
			t.Errorf("%s: %v, error %d, and then %v, error %d", c.name, r, e, o, f)
		}
	}
}

func TestResultsCanBeChanged(t *testing.T) {
	for _, c := range calls() {
		before, _ := c.do(good())
		said := fmt.Sprint(before)
		for _, r := range before {
			for _, l := range memory(reflect.ValueOf(r)) {
				l.Clear()
			}
		}
		if after, _ := c.do(good()); fmt.Sprint(after) != said {
			t.Errorf("%s: %s, and then %v", c.name, said, after)
		}
	}
}
