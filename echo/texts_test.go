package echo_test

import (
	"math"
	"math/rand"
	"slices"
	"testing"

	"oyez/api"
	"oyez/echo"
)

// P10.5 and P10.6

func TestPairs(t *testing.T) {
	three := func(faults int) echo.Echo {
		return echo.Echo{Texts: lists(list(1, 2), list(3), list(1, 3)), Heard: list(1, 3, 2), Faults: faults}
	}
	for i, x := range []struct {
		e       echo.Echo
		pairs   []echo.Pair
		with    [][]int
		musts   []int
		closest echo.Pair
		least   int
	}{
		{crossed(5, 0), pairs(pair(0, 1)), lists(list(1), list(0)), list(0, 1), pair(0, 1), 0},
		{crossed(5, 1), pairs(pair(0, 1)), lists(list(1), list(0)), list(0, 1), pair(0, 1), 0},
		{crossed(5, 2), pairs(pair(0, 1)), lists(list(1), list(0)), list(0, 1), pair(0, 1), 0},
		{crossed(5, 3), pairs(pair(0, 0), pair(0, 1), pair(1, 1)), lists(list(0, 1), list(0, 1)), nil, pair(0, 1), 0},
		{crossed(2, 2), nil, lists(nil, nil), nil, pair(0, 1), 3},
		{crossed(2, 3), pairs(pair(0, 1)), lists(list(1), list(0)), list(0, 1), pair(0, 1), 3},
		{three(0), pairs(pair(0, 1)), lists(list(1), list(0), nil), list(0, 1), pair(0, 1), 0},
		{three(1), pairs(pair(0, 1), pair(0, 2)), lists(list(1, 2), list(0), list(0)), list(0), pair(0, 1), 0},
		{texts(1, list(1)), nil, lists(nil), nil, pair(0, 0), 2},
		{texts(2, list(1)), pairs(pair(0, 0)), lists(list(0)), list(0), pair(0, 0), 2},
		{texts(0, list(1, 2), list(1), list(2)), nil, lists(nil, nil, nil), nil, pair(1, 1), 2},
		{texts(2, list(1, 2), list(1), list(2)), pairs(pair(1, 1), pair(1, 2), pair(2, 2)), lists(nil, list(1, 2), list(1, 2)), nil, pair(1, 1), 2},
		{texts(3, list(1, 2), list(1)), pairs(pair(0, 1), pair(1, 1)), lists(list(1), list(0, 1)), list(1), pair(1, 1), 2},
		// two that are the same
		{echo.Echo{Texts: lists(list(7), list(7)), Heard: list(7, 7)}, pairs(pair(0, 0), pair(0, 1), pair(1, 1)), lists(list(0, 1), list(0, 1)), nil, pair(0, 0), 0},
		{echo.Echo{Texts: lists(list(8), list(7), list(7)), Heard: list(7, 8)}, pairs(pair(0, 1), pair(0, 2)), lists(list(1, 2), list(0), list(0)), list(0), pair(0, 1), 0},
	} {
		found, e := echo.Pairs(x.e)
		closest, least, f := echo.Closest(x.e)
		if !slices.Equal(found, x.pairs) || closest != x.closest || least != x.least || e != api.OK || f != api.OK {
			t.Error(i, found, closest, least, e, f)
		}
		for text, want := range x.with {
			if with, e := echo.With(x.e, text); !slices.Equal(with, want) || e != api.OK {
				t.Error(i, text, with, e)
			}
		}
		musts, e := echo.Musts(x.e)
		if none := len(x.pairs) == 0; !slices.Equal(musts, x.musts) || none != (e == api.ErrNone) || !none && e != api.OK {
			t.Error(i, musts, e)
		}
	}
}

func TestPairsOfAnyEcho(t *testing.T) {
	var can, must [16]int
	check := func(r *rand.Rand, e echo.Echo) {
		want := relatedOf(e)
		found, e1 := echo.Pairs(e)
		closest, least, e2 := echo.Closest(e)
		if !slices.Equal(found, want.pairs) || closest != want.closest || least != want.least || e1 != api.OK || e2 != api.OK {
			t.Error(found, closest, least, want, e1, e2)
		}
		for text := range e.Texts {
			if with, e := echo.With(e, text); !slices.Equal(with, want.with[text]) || e != api.OK {
				t.Error(text, with, want.with[text], e)
			}
		}
		musts, f := echo.Musts(e)
		if none := len(want.pairs) == 0; !slices.Equal(musts, want.musts) || none != (f == api.ErrNone) || !none && f != api.OK {
			t.Error(musts, want.musts, f)
		}
		can[len(found)]++
		must[len(musts)]++
	}
	someEchoes(t, 1000, 5, check)
	someEchoes(t, 40, echo.MaxHeard, check)
	if slices.Min(can[:4]) < 20 || can[15] < 20 || slices.Min(must[:3]) < 30 {
		t.Error("too few echoes of a kind:", can, must)
	}
}

func TestNoText(t *testing.T) {
	for _, n := range list(2, -1, math.MinInt, math.MaxInt) {
		if with, e := echo.With(crossed(5, 0), n); with != nil || e != api.ErrAbsent {
			t.Error(n, with, e)
		}
		for _, p := range pairs(pair(0, n), pair(n, 0), pair(n, n)) {
			far, e := echo.Distance(crossed(5, 0), p.A, p.B)
			common, f := echo.Common(crossed(5, 0), p.A, p.B)
			middle, g := echo.Middle(crossed(5, 0), p.A, p.B)
			if far != 0 || common != nil || middle != nil || e != api.ErrAbsent || f != api.ErrAbsent || g != api.ErrAbsent {
				t.Error(p, far, common, middle, e, f, g)
			}
		}
	}
}

// checkTexts checks what is told of two texts.
func checkTexts(t *testing.T, e echo.Echo, p echo.Pair, far int) {
	t.Helper()
	a, b := e.Texts[p.A], e.Texts[p.B]
	n, e1 := echo.Distance(e, p.A, p.B)
	common, e2 := echo.Common(e, p.A, p.B)
	middle, e3 := echo.Middle(e, p.A, p.B)
	if n != far || e1 != api.OK || e2 != api.OK || e3 != api.OK {
		t.Error(p, n, far, e1, e2, e3)
	}
	if parts(a)[told(common)] == 0 || parts(b)[told(common)] == 0 || 2*len(common) != len(a)+len(b)-far {
		t.Error(p, common, far)
	}
	if 2*distanceOf(a, middle) > far+1 || 2*distanceOf(b, middle) > far+1 {
		t.Error(p, middle, far)
	}
	// the middle is a text, so what it must be can be asked for, too
	other := texts(0, a, b, middle)
	one, e1 := echo.Distance(other, 0, 2)
	two, e2 := echo.Distance(other, 1, 2)
	if 2*one > far+1 || 2*two > far+1 || e1 != api.OK || e2 != api.OK {
		t.Error(p, middle, one, two, e1, e2)
	}
}

func TestTwoTexts(t *testing.T) {
	for _, x := range []struct {
		a, b []int
		far  int
	}{
		{list(1, 2, 3), list(4, 2), 3},
		{list(1, 2, 3), list(1, 2, 3), 0},
		{list(1, 2, 3), list(3, 2, 1), 4},
		{list(1), list(1), 0},
		{list(1), list(2), 2},
		{list(1), list(1, 2), 1},
		{list(1), list(2, 1), 1},
		{list(1), list(2, 3), 3},
		{list(1), list(2, 3, 4, 5, 6, 7), 7},
		{list(9), list(1, 2, 9, 3, 4, 5), 5},
		{list(1, 2, 3, 4, 5, 6), list(7, 8, 9, 7, 8, 9), 12},
		{list(1, 2, 3, 4, 5, 6), list(7, 8, 9, 7, 8), 11},
		{list(1, 2, 3, 4, 5, 6), list(0, 7, 8, 9, 7, 1), 10},
		{list(1, 2, 3, 4, 5, 6), list(6, 1, 2, 3, 4, 5), 2},
		{list(1, 1, 1, 1, 1, 1), list(1), 5},
		{list(1, 2, 1, 2, 1, 2), list(2, 1, 2, 1, 2, 1), 2},
		{list(1, 1, 2, 2), list(2, 2, 1, 1), 4},
	} {
		checkTexts(t, texts(0, x.a, x.b), pair(0, 1), x.far)
		checkTexts(t, texts(0, x.a, x.b), pair(1, 0), x.far)
		checkTexts(t, texts(0, x.a, x.b), pair(1, 1), 0)
		if t.Failed() {
			t.Fatal(x)
		}
	}
}

func TestTextsOfAnyEcho(t *testing.T) {
	var far [2*echo.MaxWords + 1]int
	someEchoes(t, 1500, echo.MaxHeard, func(r *rand.Rand, e echo.Echo) {
		var confused []echo.Pair
		for _, p := range allPairs(e) {
			n := distanceOf(e.Texts[p.A], e.Texts[p.B])
			checkTexts(t, e, p, n)
			checkTexts(t, e, pair(p.B, p.A), n)
			far[n]++
			if p.A < p.B && n <= 2*e.Faults {
				confused = append(confused, p)
			}
		}
		if got, f := echo.Confused(e); !slices.Equal(got, confused) || f != api.OK {
			t.Error(got, confused, f)
		}
	})
	if slices.Min(far[:]) < 5 {
		t.Error("too few distances of a kind:", far)
	}
}

func TestDistanceIsTheFewestChanges(t *testing.T) {
	words := list(0, 1, 2)
	someEchoes(t, 300, 0, func(r *rand.Rand, e echo.Echo) {
		e.Texts = lists(someWords(r, 1+r.Intn(4), 3), someWords(r, 1+r.Intn(4), 3))
		changes := near(e.Texts[0], words, 3)
		n, is := changes[told(e.Texts[1])]
		if far, f := echo.Distance(e, 0, 1); is && far != n || !is && far <= 3 || f != api.OK {
			t.Error(far, n, is, f)
		}
	})
}

func TestConfused(t *testing.T) {
	five := lists(list(1, 2, 3), list(4, 2), list(1, 2, 3), list(5, 6, 7, 8, 9, 0), list(3, 2, 1))
	four := pairs(pair(0, 1), pair(0, 2), pair(0, 4), pair(1, 2), pair(1, 4), pair(2, 4))
	with := pairs(pair(0, 1), pair(0, 2), pair(0, 4), pair(1, 2), pair(1, 3), pair(1, 4), pair(2, 4))
	whole := pairs(pair(0, 1), pair(0, 2), pair(0, 3), pair(0, 4), pair(1, 2), pair(1, 3), pair(1, 4), pair(2, 3), pair(2, 4), pair(3, 4))
	for faults, want := range [][]echo.Pair{
		pairs(pair(0, 2)), pairs(pair(0, 2)), four, four, with, whole, whole, whole, whole,
	} {
		if got, e := echo.Confused(texts(faults, five...)); !slices.Equal(got, want) || e != api.OK {
			t.Error(faults, got, e)
		}
	}
	for faults := range echo.MaxFaults + 1 {
		if got, e := echo.Confused(texts(faults, list(1))); len(got) > 0 || e != api.OK {
			t.Error(faults, got, e)
		}
	}
}
