package file_test

import (
	"math/rand"
	"slices"
	"testing"

	"oyez/api"
	"oyez/file"
)

// P11.4

// conflicts finds the places where both copies differ from their base, and from each other.
func conflicts(base, a, b []file.Record) []file.Place {
	var all []file.Place
	for _, p := range placesOf(base, a, b) {
		if x, y, z := what(base, p), what(a, p), what(b, p); x != y && x != z && y != z {
			all = append(all, p)
		}
	}
	return all
}

// settled finds the copies joined, with what chosen says at each conflict.
func settled(base, a, b []file.Record, chosen func(n int, p file.Place) string) []file.Record {
	found := conflicts(base, a, b)
	return having(placesOf(base, a, b), func(p file.Place) string {
		if n := slices.Index(found, p); n >= 0 {
			return chosen(n, p)
		}
		x, y, z := what(base, p), what(a, p), what(b, p)
		if x == y {
			return z
		}
		return y
	})
}

// sameCopies checks Join of copies, and Settle with some choices.
func sameCopies(t *testing.T, base, a, b []file.Record, choices [][]bool) {
	t.Helper()
	found := conflicts(base, a, b)
	want := settled(base, a, b, func(_ int, p file.Place) string { return what(base, p) })
	got, clashes, e := file.Join(base, a, b)
	if len(want) > file.MaxRecords {
		if got != nil || clashes != nil || e != api.ErrCount {
			t.Error(got, clashes, e)
		}
	} else if told(got) != told(want) || !slices.Equal(clashes, found) || e != api.OK {
		t.Error(got, clashes, e)
	}
	for _, second := range choices {
		want := settled(base, a, b, func(n int, p file.Place) string {
			if second[n] {
				return what(b, p)
			}
			return what(a, p)
		})
		got, e := file.Settle(base, a, b, second)
		if len(want) > file.MaxRecords {
			if got != nil || e != api.ErrCount {
				t.Error(second, got, e)
			}
		} else if told(got) != told(want) || e != api.OK {
			t.Error(second, got, e)
		}
	}
}

// choices returns all of so many conflicts.
func choices(n int) [][]bool {
	var all [][]bool
	for set := range 1 << n {
		second := make([]bool, n)
		for i := range second {
			second[i] = set>>i&1 == 1
		}
		all = append(all, second)
	}
	return all
}

func TestExamplesOfCopies(t *testing.T) {
	at3 := places(at(file.Notice, 3))
	calm := records(rec(file.Notice, 3, "storm"))
	for i, x := range []struct {
		base, a, b, want []file.Record
		conflicts        []file.Place
		first, second    []file.Record
	}{
		{tide(), calm, plea(), storm(), nil, storm(), storm()},
		{tide(), calm, nil, tide(), at3, calm, nil},
		{tide(), nil, calm, tide(), at3, nil, calm},
		{tide(), calm, calm, calm, nil, calm, calm},
		{tide(), nil, nil, nil, nil, nil, nil},
		{tide(), tide(), nil, nil, nil, nil, nil},
		{tide(), tide(), tide(), tide(), nil, tide(), tide()},
		{nil, tide(), nil, tide(), nil, tide(), tide()},
		{nil, tide(), tide(), tide(), nil, tide(), tide()},
		{nil, tide(), calm, nil, at3, tide(), calm},
		{nil, tide(), storm(), records(rec(file.Plea, 0, "")), at3, plea(), storm()},
		{nil, nil, nil, nil, nil, nil, nil},
	} {
		got, clashes, e := file.Join(x.base, x.a, x.b)
		if told(got) != told(x.want) || !slices.Equal(clashes, x.conflicts) || e != api.OK {
			t.Error(i, got, clashes, e)
		}
		first, e := file.Settle(x.base, x.a, x.b, make([]bool, len(x.conflicts)))
		second, f := file.Settle(x.base, x.a, x.b, slices.Repeat([]bool{true}, len(x.conflicts)))
		if told(first) != told(x.first) || told(second) != told(x.second) || e != api.OK || f != api.OK {
			t.Error(i, first, second, e, f)
		}
		for _, n := range []int{len(x.conflicts) + 1, len(x.conflicts) - 1, 40} {
			if n < 0 {
				continue
			}
			if f, e := file.Settle(x.base, x.a, x.b, make([]bool, n)); f != nil || e != api.ErrCount {
				t.Error(i, n, f, e)
			}
		}
	}
}

// TestSmallCopies joins all copies of two places, and each fourth of three places.
func TestSmallCopies(t *testing.T) {
	for _, n := range []int{2, 3} {
		files := smallFiles(n)
		for i, base := range files {
			for j, a := range files {
				for k, b := range files {
					if n == 3 && (i+j+k)%4 > 0 {
						continue
					}
					sameCopies(t, base, a, b, choices(len(conflicts(base, a, b))))
					if t.Failed() {
						t.Fatal(base, a, b)
					}
				}
			}
		}
	}
}

func TestLargerCopies(t *testing.T) {
	many, none := 0, 0
	someCopies(t, 1000, 60, func(r *rand.Rand, base, a, b []file.Record) {
		if len(base) > file.MaxRecords {
			return
		}
		found := len(conflicts(base, a, b))
		some := make([]bool, found)
		for i := range some {
			some[i] = r.Intn(2) == 1
		}
		sameCopies(t, base, a, b, [][]bool{some, make([]bool, found), slices.Repeat([]bool{true}, found)})
		if found > 2 {
			many++
		}
		if found == 0 {
			none++
		}
		if f, e := file.Settle(base, a, b, make([]bool, found+1)); f != nil || e != api.ErrCount {
			t.Error(f, e)
		}
	})
	if many < 100 || none < 100 {
		t.Error("too few copies of a kind:", many, none)
	}
}

// TestTooManyTogether takes copies of which only some choices, or only Join, have too many records.
func TestTooManyTogether(t *testing.T) {
	with := func(words string, n int) []file.Record { return append(records(rec(file.Stand, 0, words)), many(n)...) }
	for i, y := range []struct {
		base, a, b []file.Record
		join       api.Errno
		settle     [2]api.Errno
	}{
		// where the conflict is, the base has a record, and the second copy none
		{with("one", 38), with("two", 39), append(many(38), rec(file.Plea, 0, "")), api.ErrCount, [2]api.Errno{api.ErrCount, api.OK}},
		// and where the base has none, both copies have one
		{many(38), append(with("two", 38), rec(file.Plea, 1, "")), append(with("three", 38), rec(file.Plea, 2, "")), api.OK, [2]api.Errno{api.ErrCount, api.ErrCount}},
		{many(37), with("two", 38), with("three", 37), api.OK, [2]api.Errno{api.OK, api.OK}},
		{with("one", 39), with("two", 39), many(39), api.OK, [2]api.Errno{api.OK, api.OK}},
	} {
		sameCopies(t, y.base, y.a, y.b, [][]bool{{false}, {true}})
		if _, found, e := file.Join(y.base, y.a, y.b); e != y.join || e == api.OK && len(found) != 1 {
			t.Error(i, found, e)
		}
		for n, second := range []bool{false, true} {
			if _, e := file.Settle(y.base, y.a, y.b, []bool{second}); e != y.settle[n] {
				t.Error(i, second, e)
			}
		}
	}
	if f, found, e := file.Join(nil, many(40), records(rec(file.Plea, 0, ""))); f != nil || found != nil || e != api.ErrCount {
		t.Error(f, found, e)
	}
	if f, found, e := file.Join(nil, many(39), records(rec(file.Plea, 0, ""))); len(f) != 40 || found != nil || e != api.OK {
		t.Error(f, found, e)
	}
}
