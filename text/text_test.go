package text_test

import (
	"math"
	"math/rand"
	"slices"
	"testing"

	"oyez/api"
	"oyez/text"
)

// P2.1

func TestKindsAndLimits(t *testing.T) {
	if text.Long != 0 || text.Cut != 1 || text.Otherwise != 2 {
		t.Error(text.Long, text.Cut, text.Otherwise)
	}
	limits := list(text.MaxWords, text.MaxTurns, text.MaxSyllables, text.MaxWeight, text.MaxBreath, text.MaxMark, text.MaxPence, text.LongWord)
	if !slices.Equal(limits, list(12, 6, 9, 20, 40, 99, 100, 3)) {
		t.Error(limits)
	}
}

// ones returns n words of one syllable.
func ones(n int) []text.Word { return slices.Repeat([]text.Word{word(1, 0, true)}, n) }

func TestCheckCountsWordsAndTurns(t *testing.T) {
	for n := range 15 {
		for turns := range 9 {
			want := api.ErrCount
			if n >= 1 && n <= 12 && turns <= 6 {
				want = api.OK
			}
			if turns > 0 && n == 1 {
				continue
			}
			x := text.Text{Words: ones(n), Turns: slices.Repeat([]text.Turn{turn(0, 1, 1)}, turns), Breath: 1}
			if e := text.Check(x); e != want {
				t.Errorf("%d words, %d turns: error %d, want %d", n, turns, e, want)
			}
		}
	}
}

func TestCheckAsksNumbers(t *testing.T) {
	for n := -3; n <= 45; n++ {
		for i, x := range []struct {
			change func(x *text.Text)
			lo, hi int
		}{
			{func(x *text.Text) { x.Breath = n }, 1, 40},
			{func(x *text.Text) { x.Words[0].Syllables = n }, 1, 9},
			{func(x *text.Text) { x.Words[7].Syllables = n }, 1, 9},
			{func(x *text.Text) { x.Words[0].Weight = n }, 0, 20},
			{func(x *text.Text) { x.Words[7].Weight = n }, 0, 20},
		} {
			y, want := gate(5), api.ErrRange
			x.change(&y)
			if n >= x.lo && n <= x.hi {
				want = api.OK
			}
			if e := text.Check(y); e != want {
				t.Errorf("%d, %d: error %d, want %d", i, n, e, want)
			}
		}
	}
}

func TestCheckAsksTurns(t *testing.T) {
	for n := -2; n <= 9; n++ {
		for lo := -2; lo <= 9; lo++ {
			for hi := -2; hi <= 9; hi++ {
				x, want := gate(5), api.OK
				x.Turns[0] = turn(n, lo, hi)
				switch {
				case min(n, lo, hi) < 0 || max(n, lo, hi) > 7:
					want = api.ErrAbsent
				case lo > hi:
					want = api.ErrOrder
				case lo <= n && n <= hi:
					want = api.ErrClash
				}
				if e := text.Check(x); e != want {
					t.Errorf("turn %d, %d to %d: error %d, want %d", n, lo, hi, e, want)
				}
			}
		}
	}
}

func TestCheckAsksAllTurnsForEachError(t *testing.T) {
	absent, order, clash, good := turn(8, 0, 0), turn(0, 2, 1), turn(2, 2, 2), turn(3, 4, 5)
	for i, x := range []struct {
		turns []text.Turn
		e     api.Errno
	}{
		{[]text.Turn{good, good, good}, api.OK},
		{[]text.Turn{clash, order, absent}, api.ErrAbsent},
		{[]text.Turn{clash, good, order}, api.ErrOrder},
		{[]text.Turn{good, good, clash}, api.ErrClash},
		{[]text.Turn{turn(math.MaxInt, 0, 0)}, api.ErrAbsent},
		{[]text.Turn{turn(0, math.MinInt, 3)}, api.ErrAbsent},
		{[]text.Turn{turn(0, 1, math.MaxInt)}, api.ErrAbsent},
	} {
		y := gate(5)
		y.Turns = x.turns
		if e := text.Check(y); e != x.e {
			t.Errorf("%d: error %d, want %d", i, e, x.e)
		}
	}
}

// P2.2

func TestSays(t *testing.T) {
	someTexts(t, 300, 12, func(_ *rand.Rand, x text.Text) {
		n := len(x.Words)
		for lo := -2; lo <= n+1; lo++ {
			for hi := -2; hi <= n+1; hi++ {
				var want []int
				f := api.OK
				switch {
				case lo < 0 || hi < 0 || lo >= n || hi >= n:
					f = api.ErrAbsent
				case lo > hi:
					f = api.ErrOrder
				default:
					for i, u := range x.Turns {
						if otherwise(u, words(lo, hi)) {
							want = append(want, i)
						}
					}
				}
				if got, e := text.Says(x, span(lo, hi)); e != f || !slices.Equal(got, want) {
					t.Error(lo, hi, got, e, want, f)
				}
			}
		}
	})
}

func TestSaysInTheExamples(t *testing.T) {
	both := gate(5)
	both.Turns = append(both.Turns, turn(7, 5, 5), turn(0, 4, 4))
	for i, x := range []struct {
		part api.Span
		want []int
	}{
		{span(4, 5), list(0, 1, 2)},
		{span(4, 7), list(0, 2)},
		{span(3, 5), list(1, 2)},
		{span(5, 5), list(1)},
		{span(0, 7), nil},
		{span(0, 4), nil},
	} {
		if got, e := text.Says(both, x.part); e != api.OK || !slices.Equal(got, x.want) {
			t.Errorf("%d: %v, error %d, want %v", i, got, e, x.want)
		}
	}
}

func TestWrongIsTheFirstBreathAndItsFirstFault(t *testing.T) {
	someTexts(t, 400, 10, func(_ *rand.Rand, x text.Text) {
		for _, l := range readings(len(x.Words)) {
			breath, kind, f := firstWrong(x, l)
			if at, why, e := text.Wrong(x, l); at != breath || why != kind || e != f {
				t.Error(l, at, why, e, "want", breath, kind, f)
			}
		}
	})
}

func TestWrongInTheExamples(t *testing.T) {
	for i, x := range []struct {
		l    []int
		at   int
		kind text.Kind
		e    api.Errno
	}{
		{list(2, 4, 2), 0, 0, api.ErrNone},
		{list(4, 4), 1, text.Otherwise, api.OK},
		{list(6, 2), 0, text.Long, api.OK},
		{list(2, 6), 1, text.Long, api.OK},
		{list(3, 5), 0, text.Cut, api.OK},
		{list(2, 3, 3), 1, text.Cut, api.OK},
		{list(1, 7), 0, text.Cut, api.OK},
		{list(7, 1), 0, text.Long, api.OK},
		{list(4, 3, 1), 1, text.Cut, api.OK},
		{list(8), 0, text.Long, api.OK},
		{list(4, 2, 2), 1, text.Otherwise, api.OK},
	} {
		if at, kind, e := text.Wrong(gate(5), x.l); at != x.at || kind != x.kind || e != x.e {
			t.Errorf("%d: %d, %d, error %d", i, at, kind, e)
		}
	}
	full := plain(40, 9, 9, 9, 9, 4)
	if _, _, e := text.Wrong(full, list(5)); e != api.ErrNone {
		t.Error("as many syllables as a breath has room for:", e)
	}
	full.Words[4].Stop = false
	if _, _, e := text.Wrong(full, list(5)); e != api.ErrNone {
		t.Error("no stop behind all words:", e)
	}
}

func TestReadingsMustBeOnes(t *testing.T) {
	for i, x := range []struct {
		l []int
		e api.Errno
	}{
		{nil, api.ErrCount},
		{list(8), api.OK},
		{list(7), api.ErrCount},
		{list(9), api.ErrCount},
		{list(12), api.ErrCount},
		{list(13), api.ErrRange},
		{list(2, 2, 2, 2, 1), api.ErrCount},
		{list(2, 2, 2, 2, 0), api.ErrRange},
		{list(9, -1), api.ErrRange},
		{list(12, 12, 12, 13), api.ErrRange},
		{list(math.MaxInt, math.MaxInt, 10), api.ErrRange},
		{list(math.MinInt, math.MinInt, 8), api.ErrRange},
		{slices.Repeat(list(1), 100000), api.ErrCount},
	} {
		_, _, e := text.Wrong(gate(5), x.l)
		if e != x.e {
			t.Errorf("%d: Wrong: error %d, want %d", i, e, x.e)
		}
		if x.e == api.OK {
			continue
		}
		if turn, run, e := text.Astray(gate(5), x.l); turn != 0 || run != span(0, 0) || e != x.e {
			t.Errorf("%d: Astray: %d, %v, error %d, want %d", i, turn, run, e, x.e)
		}
	}
}
