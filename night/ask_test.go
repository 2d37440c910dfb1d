package night_test

import (
	"math"
	"math/rand"
	"slices"
	"testing"

	"oyez/api"
	"oyez/night"
)

// P5.6 and P5.7

func TestSplit(t *testing.T) {
	for i, x := range []struct {
		w             night.Watch
		p             night.Place
		heard, silent int
		e             api.Errno
	}{
		{four(), at(0, 0), 42, 0, api.OK},
		{four(), at(0, 1), 14, 28, api.OK},
		{four(), at(1, 0), 18, 24, api.OK},
		{four(), at(1, 1), 6, 36, api.OK},
		{four(), at(1, 3), 9, 33, api.OK},
		{fourWith(marks(s, h, u, u)), at(0, 2), 0, 0, api.OK},
		{fourWith(marks(s, h, u, u)), at(0, 1), 0, 0, api.ErrTwice},
		{four(), at(0, 2), 0, 0, api.ErrTwice},
		{four(), at(0, 3), 0, 0, api.ErrTwice},
		{four(), at(-1, 2), 0, 0, api.ErrAbsent},
		{four(), at(2, 2), 0, 0, api.ErrAbsent},
		{four(), at(0, -1), 0, 0, api.ErrAbsent},
		{four(), at(0, 4), 0, 0, api.ErrAbsent},
		{four(), at(math.MaxInt, math.MinInt), 0, 0, api.ErrAbsent},
	} {
		if a, b, e := night.Split(x.w, x.p); a != x.heard || b != x.silent || e != x.e {
			t.Error(i, a, b, e)
		}
	}
}

func TestSplitAgainstAllExplanations(t *testing.T) {
	someWatches(t, 300, largest, func(_ *rand.Rand, w night.Watch) {
		all := explanations(w)
		for _, p := range allPlaces(w) {
			if w.Hours[p.Hour][p.Man] != u {
				continue
			}
			heard := 0
			for _, nights := range all {
				if cries(w, nights[p.Hour], p.Man) {
					heard++
				}
			}
			if a, b, e := night.Split(w, p); a != heard || b != len(all)-heard || e != api.OK {
				t.Error(p, a, b, e, heard, len(all))
			}
		}
	})
}

func TestAsk(t *testing.T) {
	for i, x := range []struct {
		w night.Watch
		p night.Place
		n int
		e api.Errno
	}{
		{four(), at(1, 0), 24, api.OK},
		{nothingKnown(2, 2), at(0, 0), 8, api.OK},
		{fourWith(marks(u, u, u, u)), at(0, 0), 8, api.OK},
		{fourWith(marks(h, u, u, u)), at(0, 1), 4, api.OK},
		{fourWith(marks(s, u, u, u)), at(0, 1), 8, api.OK},
		// the hour behind it tells more
		{fourWith(marks(s, u, u, u), marks(h, u, u, u)), at(1, 1), 32, api.OK},
		{fourWith(marks(h, h, s, h)), at(0, 0), 0, api.ErrNone},
		{fourWith(marks(h, h, s, h), marks(s, s, s, s)), at(0, 0), 0, api.ErrNone},
		{fourWith(marks(s, h, u, u)), at(0, 0), 0, api.ErrClash},
		{fourWith(marks(s, h, h, h)), at(0, 0), 0, api.ErrClash},
	} {
		if p, n, e := night.Ask(x.w); p != x.p || n != x.n || e != x.e {
			t.Error(i, p, n, e)
		}
	}
}

func TestAskAgainstAllPlaces(t *testing.T) {
	var later, none int
	for _, most := range []sizes{small, anyMany} {
		explainedWatches(t, 300, most, func(_ *rand.Rand, w night.Watch) {
			var best night.Place
			fewest := -1
			for _, p := range allPlaces(w) {
				n := max(many(marked(w, h, p)), many(marked(w, s, p)))
				if w.Hours[p.Hour][p.Man] == u && (fewest < 0 || n < fewest) {
					best, fewest = p, n
				}
			}
			p, n, e := night.Ask(w)
			if fewest < 0 {
				none++
				if p != best || n != 0 || e != api.ErrNone {
					t.Error(p, n, e)
				}
				return
			}
			if p != best || n != fewest || e != api.OK {
				t.Error(p, n, e, best, fewest)
			}
			if p.Hour > 0 {
				later++
			}
		})
	}
	if later < 50 || none < 10 {
		t.Error("too few watches of a kind:", later, none)
	}
}

func TestWrong(t *testing.T) {
	for i, x := range []struct {
		w    night.Watch
		want []night.Place
	}{
		{four(), nil},
		{nothingKnown(6, 8), nil},
		{fourWith(marks(s, h, u, u)), places(at(0, 0))},
		{fourWith(marks(u, u, u, u), marks(s, h, u, u)), places(at(1, 0))},
		{fourWith(marks(s, h, h, u)), places(at(0, 0))},
		{fourWith(marks(s, s, h, s)), places(at(0, 2))},
		{fourWith(marks(h, s, h, s)), places(at(0, 1))},
		{fourWith(marks(u, s, h, h)), places(at(0, 1))},
		{fourWith(marks(s, s, h, h), marks(u, u, u, u), marks(s, u, u, h)), places(at(0, 0), at(0, 1), at(2, 0))},
		{fourWith(marks(s, h, h, h), marks(s, s, s, h)), places(at(0, 0), at(1, 0))},
	} {
		if l, e := night.Wrong(x.w); !slices.Equal(l, x.want) || e != api.OK {
			t.Error(i, l, e)
		}
	}
}

// someReports returns a watch whose marks may be any.
func someReports(r *rand.Rand, men, hours int) night.Watch {
	w := night.Watch{Listens: someListens(r, men)}
	for hour := range hours {
		w.Hours = append(w.Hours, make([]night.Mark, men))
		for man := range men {
			w.Hours[hour][man] = night.Mark(min(2, r.Intn(4)))
		}
	}
	return w
}

// wrong returns the first of the shortest lists of some places without whose marks there is an explanation, by trying all lists.
func wrong(w night.Watch, of []night.Place) []night.Place {
	for _, set := range bySize(len(of)) {
		var some []night.Place
		for _, i := range elements(set) {
			some = append(some, of[i])
		}
		if many(marked(w, u, some...)) > 0 {
			return some
		}
	}
	return nil
}

func TestWrongAgainstAllListsOfPlaces(t *testing.T) {
	r := rand.New(rand.NewSource(57))
	var found [3]int
	for range 1500 {
		men := 1 + r.Intn(5)
		w := someReports(r, men, 1+r.Intn(min(8, 10/men)))
		want := wrong(w, allPlaces(w))
		if l, e := night.Wrong(w); !slices.Equal(l, want) || e != api.OK {
			t.Fatal(w, l, e, want)
		}
		found[min(len(want), 2)]++
	}
	if slices.Min(found[:]) < 50 {
		t.Error("too few watches with none, one or several:", found)
	}
}

// In the largest watches, what is wrong is tried hour by hour.
func TestWrongOfLargeWatches(t *testing.T) {
	r := rand.New(rand.NewSource(58))
	longest := 0
	for range 50 {
		w := someReports(r, 6, 8)
		var want []night.Place
		for hour := range w.Hours {
			alone := night.Watch{Listens: w.Listens, Hours: w.Hours[hour : hour+1]}
			for _, p := range wrong(alone, allPlaces(alone)) {
				want = append(want, at(hour, p.Man))
			}
		}
		if l, e := night.Wrong(w); !slices.Equal(l, want) || e != api.OK {
			t.Fatal(w, l, e, want)
		}
		longest = max(longest, len(want))
	}
	if longest < 5 {
		t.Error("too few wrong marks:", longest)
	}
}
