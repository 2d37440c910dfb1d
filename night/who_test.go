package night_test

import (
	"math"
	"math/rand"
	"reflect"
	"slices"
	"testing"

	"oyez/api"
	"oyez/night"
)

// P5.4 and P5.5

func verdicts(v ...night.Verdict) []night.Verdict { return v }

func TestWhoSlept(t *testing.T) {
	const o, a, w = night.Open, night.Slept, night.Woke
	for i, x := range []struct {
		w    night.Watch
		n    int
		v    [][]night.Verdict
		sure []int
		men  []int
	}{
		{four(), 42, [][]night.Verdict{{w, o, o, w}, {o, o, o, o}}, nil, list(1)},
		{fourWith(marks(h, h, h, h)), 1, [][]night.Verdict{{w, w, w, w}}, nil, nil},
		{fourWith(marks(u, u, u, u)), 16, [][]night.Verdict{{o, o, o, o}}, nil, nil},
		{fourWith(marks(u, h, s, h)), 1, [][]night.Verdict{{w, w, a, w}}, list(2), list(2)},
		{fourWith(marks(u, s, s, h)), 2, [][]night.Verdict{{w, a, o, w}}, list(1), list(1)},
		{fourWith(marks(h, s, s, s)), 2, [][]night.Verdict{{w, a, o, a}}, list(1, 3), list(1, 3)},
		{fourWith(marks(s, u, u, u), marks(h, u, u, s)), 32, [][]night.Verdict{{a, o, o, o}, {w, o, o, a}}, list(0, 3), list(0, 3)},
		{fourWith(marks(u, u, s, h), marks(h, h, u, s)), 6, [][]night.Verdict{{w, o, o, w}, {w, w, o, a}}, list(3), list(1, 3)},
		// different men in both hours: nobody slept surely, but two must have
		{fourWith(marks(u, h, s, u), marks(u, s, u, u)), 24, [][]night.Verdict{{w, w, a, o}, {o, o, o, o}}, list(2), list(0, 2)},
		{nothingKnown(1, 2), 4, [][]night.Verdict{{o}, {o}}, nil, nil},
	} {
		n, e := night.Count(x.w)
		v, f := night.Verdicts(x.w)
		if n != x.n || !reflect.DeepEqual(v, x.v) || e != api.OK || f != api.OK {
			t.Error(i, n, v, e, f)
		}
		sure, e := night.Sure(x.w)
		men, f := night.Men(x.w)
		if !slices.Equal(sure, x.sure) || !slices.Equal(men, x.men) || e != api.OK || f != api.OK {
			t.Error(i, sure, men, e, f)
		}
	}
}

func TestNothingIsKnownOfTheLargestWatch(t *testing.T) {
	w := nothingKnown(6, 8)
	if n, e := night.Count(w); n != 1<<48 || e != api.OK {
		t.Error(n, e)
	}
	if p, n, e := night.Ask(w); p != at(0, 0) || n != 1<<47 || e != api.OK {
		t.Error(p, n, e)
	}
}

func TestAWatchWithoutExplanation(t *testing.T) {
	for i, w := range []night.Watch{
		fourWith(marks(s, h, u, u)),
		fourWith(marks(u, u, u, u), marks(u, s, h, u), marks(u, u, u, u)),
		fourWith(marks(s, u, u, h), marks(s, u, u, u)),
	} {
		n, e := night.Count(w)
		ways, f := night.Ways(w)
		if n != 0 || ways != 0 || e != api.OK || f != api.OK {
			t.Error(i, n, ways, e, f)
		}
		for _, name := range []string{"Fewest", "Table", "Shows", "Verdicts", "Sure", "Men", "Most", "Ask"} {
			for _, c := range calls() {
				x := good()
				x.w = w
				if c.name != name {
					continue
				}
				if result, e := c.do(x); e != api.ErrClash || !zero(result) {
					t.Error(i, name, result, e)
				}
			}
		}
	}
}

// verdictsIn returns the verdicts of all explanations together.
func verdictsIn(w night.Watch, all [][]int) [][]night.Verdict {
	var told [][]night.Verdict
	for hour := range w.Hours {
		told = append(told, nil)
		for man := range w.Listens {
			asleep := 0
			for _, nights := range all {
				if in(nights[hour], man) {
					asleep++
				}
			}
			v := night.Open
			if asleep == len(all) {
				v = night.Slept
			} else if asleep == 0 {
				v = night.Woke
			}
			told[hour] = append(told[hour], v)
		}
	}
	return told
}

// fewestMen returns the first of the shortest lists of men so that nobody else slept in some explanation.
func fewestMen(w night.Watch, all [][]int) []int {
	for _, set := range bySize(len(w.Listens)) {
		if slices.ContainsFunc(all, func(nights []int) bool { return slept(nights)&^set == 0 }) {
			return elements(set)
		}
	}
	return nil
}

// surely returns the men who slept in all explanations.
func surely(w night.Watch, all [][]int) []int {
	set := sets(w) - 1
	for _, nights := range all {
		set &= slept(nights)
	}
	return elements(set)
}

func TestWhoSleptAgainstAllExplanations(t *testing.T) {
	sure, several, found := 0, 0, map[night.Verdict]int{}
	for _, most := range []sizes{small, largest} {
		explainedWatches(t, 500, most, func(_ *rand.Rand, w night.Watch) {
			all := explanations(w)
			if n, e := night.Count(w); n != len(all) || e != api.OK {
				t.Error(n, e, len(all))
			}
			v, e := night.Verdicts(w)
			if !reflect.DeepEqual(v, verdictsIn(w, all)) || e != api.OK {
				t.Error(v, e)
			}
			for _, x := range slices.Concat(v...) {
				found[x]++
			}
			surelyAsleep, e := night.Sure(w)
			if !slices.Equal(surelyAsleep, surely(w, all)) || e != api.OK {
				t.Error(surelyAsleep, e)
			}
			men, e := night.Men(w)
			if !slices.Equal(men, fewestMen(w, all)) || e != api.OK {
				t.Error(men, e)
			}
			if len(surelyAsleep) > 0 {
				sure++
			}
			if len(men) > max(1, len(surelyAsleep)) {
				several++
			}
		})
	}
	if sure < 50 || several < 20 || len(found) < 3 || min(found[night.Open], found[night.Slept], found[night.Woke]) < 500 {
		t.Error("too few of a kind:", sure, several, found)
	}
}

func TestCountOfManyExplanations(t *testing.T) {
	someWatches(t, 500, anyMany, func(_ *rand.Rand, w night.Watch) {
		if n, e := night.Count(w); n != many(w) || e != api.OK {
			t.Error(n, e, many(w))
		}
	})
}

func TestMost(t *testing.T) {
	napping := fourWith(marks(h, h, s, h), marks(h, s, u, h), marks(h, h, s, h))
	for i, x := range []struct {
		w    night.Watch
		man  int
		want api.Span
		e    api.Errno
	}{
		{four(), 0, api.Span{}, api.OK},
		{four(), 1, api.Span{Lo: 0, Hi: 1}, api.OK},
		{four(), 2, api.Span{Lo: 0, Hi: 1}, api.OK},
		{four(), 3, api.Span{}, api.OK},
		{napping, 0, api.Span{}, api.OK},
		{napping, 1, api.Span{Lo: 1, Hi: 1}, api.OK},
		// man 2 slept on, though he need not have, as he would have begun another nap
		{napping, 2, api.Span{Lo: 1, Hi: 1}, api.OK},
		// two naps of two men, or of one
		{fourWith(marks(u, u, s, h), marks(u, u, h, h), marks(u, u, s, h)), 1, api.Span{Lo: 0, Hi: 2}, api.OK},
		{fourWith(marks(u, u, s, h), marks(u, u, h, h), marks(u, h, s, h)), 1, api.Span{Lo: 0, Hi: 1}, api.OK},
		{fourWith(marks(u, u, s, h), marks(u, u, h, h), marks(u, h, s, h)), 2, api.Span{Lo: 1, Hi: 2}, api.OK},
		{four(), 4, api.Span{}, api.ErrAbsent},
		{four(), -1, api.Span{}, api.ErrAbsent},
		{four(), math.MinInt, api.Span{}, api.ErrAbsent},
		{fourWith(marks(s, h, u, u)), 4, api.Span{}, api.ErrAbsent},
		{fourWith(marks(s, h, u, u)), 3, api.Span{}, api.ErrClash},
	} {
		if got, e := night.Most(x.w, x.man); got != x.want || e != x.e {
			t.Error(i, got, e)
		}
	}
}

func TestMostAgainstAllExplanations(t *testing.T) {
	wide := 0
	for _, most := range []sizes{small, largest} {
		explainedWatches(t, 500, most, func(_ *rand.Rand, w night.Watch) {
			best, _ := shortest(w)
			for man := range w.Listens {
				want := api.Span{Lo: night.MaxNaps}
				for _, nights := range best {
					n := napsOf(nights, man)
					want.Lo, want.Hi = min(want.Lo, n), max(want.Hi, n)
				}
				if got, e := night.Most(w, man); got != want || e != api.OK {
					t.Error(man, got, e, want)
				}
				if want.Hi > want.Lo {
					wide++
				}
			}
		})
	}
	if wide < 100 {
		t.Error("too few men with fewer naps or more:", wide)
	}
}
