package night_test

import (
	"math/rand"
	"slices"
	"testing"

	"oyez/api"
	"oyez/night"
)

// P5.8 and P0.6

func TestNoExplanationHasFewerNaps(t *testing.T) {
	explainedWatches(t, 500, anyMany, func(r *rand.Rand, w night.Watch) {
		nights, n, e := night.Fewest(w)
		if told, f := night.Naps(w, nights); told != n || e != api.OK || f != api.OK {
			t.Error(nights, n, told, e, f)
		}
		table, e := night.Table(w)
		if shown, f := night.Shows(w, table); shown != n || e != api.OK || f != api.OK {
			t.Error(table, shown, n, e, f)
		}
		for range 50 {
			var other []int
			for hour := range w.Hours {
				fit := fitting(w, hour)
				other = append(other, fit[r.Intn(len(fit))])
			}
			if more, e := night.Naps(w, other); more < n || e != api.OK {
				t.Error(other, more, n, e)
			}
		}
		ways, e := night.Ways(w)
		if all, f := night.Count(w); ways < 1 || ways > all || e != api.OK || f != api.OK {
			t.Error(ways, all, e, f)
		}
	})
}

func TestAManMoreWhoSleeps(t *testing.T) {
	someWatches(t, 300, anyMany, func(r *rand.Rand, w night.Watch) {
		for asleep := range sets(w) {
			less, _ := night.Cries(w, asleep)
			for man := range w.Listens {
				more, e := night.Cries(w, asleep|1<<man)
				if more&^less != 0 || in(more, man) || e != api.OK {
					t.Error(asleep, man, less, more, e)
				}
			}
		}
	})
}

func TestAMarkThatBecomesKnown(t *testing.T) {
	explainedWatches(t, 300, anyMany, func(r *rand.Rand, w night.Watch) {
		all, _ := night.Count(w)
		_, fewest, _ := night.Fewest(w)
		for _, p := range allPlaces(w) {
			if w.Hours[p.Hour][p.Man] != u {
				continue
			}
			var counts []int
			for _, m := range marks(h, s) {
				known, _ := night.With(w, p, m)
				n, e := night.Count(known)
				if n > all || e != api.OK {
					t.Error(p, m, n, all, e)
				}
				if _, naps, e := night.Fewest(known); e == api.OK && naps < fewest || (e == api.OK) != (n > 0) {
					t.Error(p, m, naps, fewest, e)
				}
				counts = append(counts, n)
			}
			heard, silent, e := night.Split(w, p)
			if !slices.Equal(counts, list(heard, silent)) || heard+silent != all || e != api.OK {
				t.Error(p, counts, heard, silent, all, e)
			}
		}
	})
}

func TestNobodyWasSilent(t *testing.T) {
	someWatches(t, 300, anyMany, func(_ *rand.Rand, w night.Watch) {
		for _, p := range allPlaces(w) {
			if w.Hours[p.Hour][p.Man] == s {
				w = marked(w, h, p)
			}
		}
		nights, n, e := night.Fewest(w)
		men, f := night.Men(w)
		if !slices.Equal(nights, make([]int, len(w.Hours))) || n != 0 || len(men) > 0 || e != api.OK || f != api.OK {
			t.Error(nights, n, men, e, f)
		}
		sure, e := night.Sure(w)
		if ways, f := night.Ways(w); ways != 1 || len(sure) > 0 || e != api.OK || f != api.OK {
			t.Error(ways, sure, e, f)
		}
	})
}

func TestAManToWhomNobodyListens(t *testing.T) {
	explainedWatches(t, 300, anyMany, func(r *rand.Rand, w night.Watch) {
		man := len(w.Listens) - 1
		for hour := range w.Hours {
			w = marked(w, u, at(hour, man))
		}
		sure, e := night.Sure(w)
		men, f := night.Men(w)
		if slices.Contains(sure, man) || slices.Contains(men, man) || e != api.OK || f != api.OK {
			t.Error(sure, men, e, f)
		}
		if span, e := night.Most(w, man); span != (api.Span{}) || e != api.OK {
			t.Error(span, e)
		}
		verdicts, e := night.Verdicts(w)
		for _, told := range verdicts {
			if told[man] != night.Open || e != api.OK {
				t.Error(verdicts, e)
			}
		}
	})
}

func TestThereAreExplanationsJustIfNoReportIsWrong(t *testing.T) {
	r := rand.New(rand.NewSource(60))
	var found [2]int
	for range 500 {
		w := someReports(r, 1+r.Intn(6), 1+r.Intn(3))
		n, e := night.Count(w)
		l, f := night.Wrong(w)
		if (n > 0) != (len(l) == 0) || e != api.OK || f != api.OK {
			t.Fatal(w, n, l, e, f)
		}
		for _, p := range l {
			w, _ = night.With(w, p, u)
		}
		if n, e := night.Count(w); n == 0 || e != api.OK {
			t.Fatal(w, l, n, e)
		}
		found[min(1, len(l))]++
	}
	if slices.Min(found[:]) < 50 {
		t.Error("too few watches of a kind:", found)
	}
}

func TestWhoSleptInAllExplanationsIsNeededInEach(t *testing.T) {
	explainedWatches(t, 300, anyMany, func(_ *rand.Rand, w night.Watch) {
		sure, e := night.Sure(w)
		men, f := night.Men(w)
		nights, _, g := night.Fewest(w)
		verdicts, i := night.Verdicts(w)
		if e != api.OK || f != api.OK || g != api.OK || i != api.OK {
			t.Error(e, f, g, i)
		}
		for _, man := range sure {
			if !slices.Contains(men, man) || !in(slept(nights), man) {
				t.Error(man, sure, men, nights)
			}
		}
		for hour, told := range verdicts {
			for man, v := range told {
				if v == night.Slept && !slices.Contains(sure, man) || v != night.Open && (v == night.Slept) != in(nights[hour], man) {
					t.Error(hour, man, v, sure, nights)
				}
			}
		}
	})
}
