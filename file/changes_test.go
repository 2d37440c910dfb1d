package file_test

import (
	"math/rand"
	"slices"
	"testing"

	"oyez/api"
	"oyez/file"
)

// P11.3

func TestCheckChanges(t *testing.T) {
	long := file.Change{Kind: file.Find, Number: 1, Had: true, Has: true, Old: words(12, 12, 12, 12, 5), New: words(12, 12, 12, 12, 4)}
	longer := file.Change{Kind: file.Find, Number: 10, Had: true, Has: true, Old: words(12, 12, 12, 12, 4), New: words(12, 12, 12, 12, 5)}
	for i, x := range []struct {
		l []file.Change
		e api.Errno
	}{
		{nil, api.OK},
		{changes(from(file.Notice, 3, "tide", "storm"), add(file.Plea, 0, "")), api.OK},
		{changes(drop(file.Stand, 0, ""), add(file.Stand, 1, "a"), from(file.Stand, 999, "", "a"), from(file.Notice, 0, "a", "")), api.OK},
		{changes(from(file.Fee, 1, "a b c d e f", "a b c d e")), api.OK},
		{changes(from(file.Fee, 1, "a b", "b a"), from(file.Fee, 2, "ab", "a b")), api.OK},
		{adding(80, 0), api.OK},
		{adding(81, 0), api.ErrCount},
		{append(adding(80, 0), file.Change{Kind: -1}), api.ErrCount},
		{changes(add(5, 1000, "A")), api.ErrVerb},
		{changes(add(file.Fee, 1000, "A")), api.ErrRange},
		{changes(add(file.Fee, -1, "A")), api.ErrRange},
		// Old is asked before New, also where there is none
		{changes(file.Change{Old: words(1, 1, 1, 1, 1, 1, 1), New: words(13)}), api.ErrCount},
		{changes(file.Change{Old: words(13), New: words(1, 1, 1, 1, 1, 1, 1)}), api.ErrForm},
		{changes(file.Change{Old: words(12, 12, 12, 12, 12), New: words(13)}), api.ErrLong},
		{changes(file.Change{New: words(1, 1, 1, 1, 1, 1, 1)}), api.ErrCount},
		{changes(file.Change{New: words(13)}), api.ErrForm},
		{changes(file.Change{New: words(12, 12, 12, 12, 12)}), api.ErrLong},
		{changes(long), api.OK},
		{changes(longer), api.ErrLong},
		// what is false
		{changes(file.Change{}), api.ErrFalse},
		{changes(file.Change{Old: words(1)}), api.ErrFalse},
		{changes(file.Change{Has: true, Old: words(1)}), api.ErrFalse},
		{changes(file.Change{Had: true, New: words(1)}), api.ErrFalse},
		{changes(file.Change{Has: true, Old: words(1), New: words(2)}), api.ErrFalse},
		{changes(from(file.Fee, 1, "a b", "a b")), api.ErrFalse},
		{changes(from(file.Fee, 1, "", "")), api.ErrFalse},
		{changes(add(file.Fee, 1, ""), file.Change{Kind: file.Fee}), api.ErrFalse},
		// and what is not in order
		{changes(add(file.Fee, 1, ""), drop(file.Fee, 1, "")), api.ErrOrder},
		{changes(add(file.Fee, 1, ""), drop(file.Fee, 0, "")), api.ErrOrder},
		{changes(add(file.Fee, 1, ""), drop(file.Find, 2, "")), api.ErrOrder},
		{changes(add(file.Fee, 1, ""), drop(file.Find, 2, ""), add(9, 0, "")), api.ErrOrder},
	} {
		if e := file.CheckChanges(x.l); e != x.e {
			t.Error(i, e, x.e)
		}
		if l, e := file.Back(x.l); e != x.e || e != api.OK && l != nil || e == api.OK && len(l) != len(x.l) {
			t.Error(i, l, e)
		}
	}
}

func TestExamplesOfChanges(t *testing.T) {
	there := changes(from(file.Notice, 3, "tide", "storm"), add(file.Plea, 0, ""))
	back := changes(from(file.Notice, 3, "storm", "tide"), drop(file.Plea, 0, ""))
	l, e := file.Diff(tide(), storm())
	if toldChanges(l) != toldChanges(there) || e != api.OK {
		t.Error(l, e)
	}
	if l, e := file.Back(there); toldChanges(l) != toldChanges(back) || e != api.OK {
		t.Error(l, e)
	}
	if f, e := file.Make(tide(), there); told(f) != told(storm()) || e != api.OK {
		t.Error(f, e)
	}
	if f, e := file.Make(storm(), back); told(f) != told(tide()) || e != api.OK {
		t.Error(f, e)
	}
	if f, e := file.Make(storm(), there); f != nil || e != api.ErrClash {
		t.Error(f, e)
	}
	if l, e := file.After(there, back); len(l) != 0 || e != api.OK {
		t.Error(l, e)
	}
	if l, e := file.After(there, there); l != nil || e != api.ErrClash {
		t.Error(l, e)
	}
}

// TestDiffOfSmallFiles takes all files, and TestMakeOfSmallFiles all files and changes of three places.
func TestDiffOfSmallFiles(t *testing.T) {
	for _, a := range smallFiles(3) {
		for _, b := range smallFiles(3) {
			if l, e := file.Diff(a, b); toldChanges(l) != toldChanges(diff(a, b)) || e != api.OK {
				t.Fatal(a, b, l, e)
			}
		}
	}
}

func TestMakeOfSmallFiles(t *testing.T) {
	for _, f := range smallFiles(3) {
		for _, l := range smallChanges(3) {
			var want []file.Record
			e := api.ErrClash
			if fits(f, l) {
				want, e = made(f, l), api.OK
			}
			if got, g := file.Make(f, l); told(got) != told(want) || g != e {
				t.Fatal(f, l, got, g)
			}
		}
	}
}

// TestBackOfSmallChanges takes all changes of three places back: what takes them back fits just the files that they make.
func TestBackOfSmallChanges(t *testing.T) {
	files := smallFiles(3)
	for _, l := range smallChanges(3) {
		back, e := file.Back(l)
		if e != api.OK || file.CheckChanges(back) != api.OK {
			t.Fatal(l, back, e)
		}
		var before, after []string
		for _, f := range files {
			if fits(f, l) {
				before = append(before, told(f)+" "+told(made(f, l)))
			}
			if fits(f, back) {
				after = append(after, told(made(f, back))+" "+told(f))
			}
		}
		slices.Sort(before)
		slices.Sort(after)
		if !slices.Equal(before, after) {
			t.Fatal(l, back, before, after)
		}
	}
}

// TestAfterOfSmallChanges does all changes of two places after all others: both together do what they do one after the other,
// and they clash just if they can do so in no file.
func TestAfterOfSmallChanges(t *testing.T) {
	files, all := smallFiles(2), smallChanges(2)
	clashes := 0
	for _, first := range all {
		for _, second := range all {
			both, e := file.After(first, second)
			can := false
			for _, f := range files {
				if !fits(f, first) || !fits(made(f, first), second) {
					continue
				}
				can = true
				if !fits(f, both) || told(made(f, both)) != told(made(made(f, first), second)) {
					t.Fatal(first, second, both, f)
				}
			}
			if can != (e == api.OK) || !can && (e != api.ErrClash || both != nil) || file.CheckChanges(both) != api.OK {
				t.Fatal(first, second, both, e)
			}
			if !can {
				clashes++
			}
			if can && len(both) != len(needed(files, first, second)) {
				t.Fatal(first, second, both)
			}
		}
	}
	if clashes == 0 {
		t.Error("no clashes")
	}
}

// needed returns the places that two lists of changes, one after the other, ask for: those where they change anything. (Where
// they change a place and change it back, nothing is asked.)
func needed(files [][]file.Record, first, second []file.Change) []file.Place {
	found := map[file.Place]bool{}
	for _, f := range files {
		if fits(f, first) && fits(made(f, first), second) {
			for _, c := range diff(f, made(made(f, first), second)) {
				found[at(c.Kind, c.Number)] = true
			}
		}
	}
	var all []file.Place
	for p := range found {
		all = append(all, p)
	}
	return all
}

// TestChangesOfLargerFiles takes files with up to 40 records, and three copies that follow each other.
func TestChangesOfLargerFiles(t *testing.T) {
	someCopies(t, 1000, 40, func(r *rand.Rand, base, a, b []file.Record) {
		first, e := file.Diff(base, a)
		second, f := file.Diff(a, b)
		if toldChanges(first) != toldChanges(diff(base, a)) || toldChanges(second) != toldChanges(diff(a, b)) || e != api.OK || f != api.OK {
			t.Error(first, second, e, f)
		}
		if both, e := file.After(first, second); toldChanges(both) != toldChanges(diff(base, b)) || e != api.OK {
			t.Error(first, second, both, e)
		}
		if got, e := file.Make(base, first); told(got) != told(a) || e != api.OK {
			t.Error(got, e)
		}
		// changes of one copy, made in the other one
		got, e := file.Make(b, first)
		switch want := made(b, first); {
		case !fits(b, first):
			if got != nil || e != api.ErrClash {
				t.Error(got, e)
			}
		case len(want) > file.MaxRecords:
			if got != nil || e != api.ErrCount {
				t.Error(got, e)
			}
		case told(got) != told(want) || e != api.OK:
			t.Error(got, want, e)
		}
	})
}

// TestMostChanges takes as many records and changes as there can be.
func TestMostChanges(t *testing.T) {
	odd := func(n int) []file.Record {
		var f []file.Record
		for i := range n {
			f = append(f, rec(file.Find, 2*i+1, "y"))
		}
		return f
	}
	l, e := file.Diff(many(40), odd(40))
	if len(l) != 80 || toldChanges(l) != toldChanges(diff(many(40), odd(40))) || e != api.OK {
		t.Error(len(l), e)
	}
	if f, e := file.Make(many(40), l); told(f) != told(odd(40)) || e != api.OK {
		t.Error(f, e)
	}
	if back, e := file.Back(l); len(back) != 80 || e != api.OK {
		t.Error(back, e)
	}
	for i, x := range []struct {
		f    []file.Record
		l    []file.Change
		many int
		e    api.Errno
	}{
		{many(39), adding(1, 1), 40, api.OK},
		{many(40), adding(1, 1), 0, api.ErrCount},
		{many(40), adding(1, 2), 0, api.ErrClash},
		{many(40), append(changes(drop(file.Find, 0, "x")), adding(1, 1)...), 40, api.OK},
		{many(40), append(changes(drop(file.Find, 0, "x")), adding(2, 1)...), 0, api.ErrCount},
		{many(40), append(changes(drop(file.Find, 0, "y")), adding(2, 1)...), 0, api.ErrClash},
		{nil, adding(40, 1), 40, api.OK},
		{nil, adding(41, 1), 0, api.ErrCount},
	} {
		if f, e := file.Make(x.f, x.l); len(f) != x.many || e != x.e {
			t.Error(i, f, e)
		}
	}
	for i, x := range []struct {
		first, second []file.Change
		many          int
		e             api.Errno
	}{
		{adding(40, 0), adding(40, 1), 80, api.OK},
		{adding(41, 0), adding(40, 1), 0, api.ErrCount},
		{adding(40, 0), adding(41, 1), 0, api.ErrCount},
		{adding(80, 0), adding(80, 1), 0, api.ErrCount},
		{append(changes(add(file.Stand, 0, "")), adding(40, 0)...), append(changes(drop(file.Stand, 0, "")), adding(40, 1)...), 80, api.OK},
		{append(changes(add(file.Stand, 0, "")), adding(40, 0)...), append(changes(from(file.Stand, 0, "", "a")), adding(40, 1)...), 0, api.ErrCount},
		{append(changes(add(file.Stand, 0, "")), adding(40, 0)...), append(changes(drop(file.Stand, 0, "a")), adding(40, 1)...), 0, api.ErrClash},
		{adding(80, 0), nil, 80, api.OK},
		{nil, adding(80, 0), 80, api.OK},
	} {
		if l, e := file.After(x.first, x.second); len(l) != x.many || e != x.e {
			t.Error(i, l, e)
		}
	}
}
