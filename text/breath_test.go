package text_test

import (
	"math"
	"math/rand"
	"slices"
	"testing"

	"oyez/api"
	"oyez/text"
)

// P2.3

func TestFewestCountAndNever(t *testing.T) {
	someTexts(t, 1500, 10, func(_ *rand.Rand, x text.Text) {
		all, want := rightReadings(x), api.OK
		if len(all) == 0 {
			want = api.ErrNone
		}
		fewest, e := text.Fewest(x)
		n, f := text.Count(x)
		never, g := text.Never(x)
		if e != want || f != api.OK || g != want || n != len(all) {
			t.Error(fewest, e, n, f, never, g, "want", len(all), want)
		}
		if want != api.OK {
			if len(fewest) != 0 || len(never) != 0 {
				t.Error(fewest, never, "beside an error")
			}
			return
		}
		if !isRight(x, fewest) || sumOf(fewest) != len(x.Words) || len(fewest) != len(all[0]) {
			t.Error(fewest, "want one like", all[0])
		}
		broken := 0
		for _, l := range all {
			for _, place := range ends(l) {
				broken |= 1 << place
			}
		}
		if places := listOf(words(1, len(x.Words)-1) &^ broken); !slices.Equal(never, places) {
			t.Error(never, "want", places)
		}
	})
}

func sumOf(l []int) int {
	n := 0
	for _, k := range l {
		n += k
	}
	return n
}

func TestReadingsInTheExamples(t *testing.T) {
	for i, x := range []struct {
		t      text.Text
		fewest []int
		count  int
		never  []int
		e      api.Errno
	}{
		{gate(5), list(2, 4, 2), 1, list(1, 3, 4, 5, 7), api.OK},
		{plain(1, 1), list(1), 1, nil, api.OK},
		{plain(1, 2), nil, 0, nil, api.ErrNone},
		{plain(1, 1, 2), nil, 0, nil, api.ErrNone},
		{plain(2, 2, 2, 1), list(1, 1, 1), 1, nil, api.OK},
		{plain(9, 9, 1, 8), list(1, 2), 2, nil, api.OK},
		{plain(12, 1, 1, 1, 1, 1, 1, 1, 1, 1, 1, 1, 1), list(12), 2048, nil, api.OK},
		// Place 1 is come to, but from there the text cannot be read on, as the last breath would be too long.
		{text.Text{Words: []text.Word{word(1, 0, true), word(5, 0, false), word(6, 0, false)}, Breath: 10}, nil, 0, nil, api.ErrNone},
		// From place 2 the text can be read on, but no breath comes to it.
		{text.Text{Words: []text.Word{word(9, 0, false), word(9, 0, true), word(1, 0, false)}, Breath: 9}, nil, 0, nil, api.ErrNone},
		{text.Text{Words: []text.Word{word(1, 0, true), word(5, 0, false), word(4, 0, true)}, Breath: 10}, list(3), 2, list(2), api.OK},
	} {
		fewest, e := text.Fewest(x.t)
		n, f := text.Count(x.t)
		never, g := text.Never(x.t)
		if !slices.Equal(fewest, x.fewest) || n != x.count || !slices.Equal(never, x.never) || e != x.e || f != api.OK || g != x.e {
			t.Errorf("%d: %v, error %d; %d, error %d; %v, error %d", i, fewest, e, n, f, never, g)
		}
	}
}

// P2.4

func TestMarksHoldAndShowTheFewest(t *testing.T) {
	someTexts(t, 1500, 12, func(_ *rand.Rand, x text.Text) {
		marks, e := text.Marks(x)
		fewest, f := text.Fewest(x)
		if e != f {
			t.Error(marks, e, fewest, f)
		}
		if e != api.OK {
			if len(marks) != 0 {
				t.Error(marks, e)
			}
			return
		}
		if len(marks) != len(x.Words)+1 || slices.Min(marks) < 0 || slices.Max(marks) > text.MaxMark || !holds(x, marks) || marks[len(x.Words)] != len(fewest) {
			t.Error(marks, fewest)
		}
		if n, e := text.Shows(x, marks); n != len(fewest) || e != api.OK {
			t.Error(marks, n, e)
		}
	})
}

func TestShows(t *testing.T) {
	for i, x := range []struct {
		marks []int
		n     int
		e     api.Errno
	}{
		{list(0, 1, 1, 1, 1, 1, 2, 2, 3), 3, api.OK},
		{list(0, 0, 0, 0, 0, 0, 0, 0, 0), 0, api.OK},
		{list(0, 0, 0, 0, 0, 0, 0, 0, 1), 1, api.OK},
		{list(0, 0, 0, 0, 0, 0, 0, 0, 2), 0, api.ErrFalse},
		{list(0, 99, 1, 99, 1, 99, 2, 99, 3), 3, api.OK},
		{list(0, 99, 1, 99, 1, 99, 2, 99, 4), 0, api.ErrFalse},
		{list(0, 0, 1, 0, 1, 0, 3, 0, 3), 0, api.ErrFalse},
		{list(0, 0, 1, 0, 0, 0, 2, 0, 3), 3, api.OK},
		{list(1, 1, 1, 1, 1, 1, 1, 1, 1), 0, api.ErrFalse},
		{list(0, 1, 1, 1, 1, 1, 2, -1, 3), 0, api.ErrRange},
		{list(1, 1, 1, 1, 1, 1, 2, 100, 3), 0, api.ErrRange},
		{list(math.MinInt, 1, 1, 1, 1, 1, 2, 2, 3), 0, api.ErrRange},
		{list(0, 1, 1, 1, 1, 1, 2, 2, math.MaxInt), 0, api.ErrRange},
		{list(0, 1, 1, 1, 1, 1, 2, 100), 0, api.ErrCount},
		{list(0, 1, 1, 1, 1, 1, 2, 2, 3, 100), 0, api.ErrCount},
		{slices.Repeat(list(0), 100000), 0, api.ErrCount},
		{nil, 0, api.ErrCount},
	} {
		if n, e := text.Shows(gate(5), x.marks); n != x.n || e != x.e {
			t.Errorf("%d: %d, error %d, want %d, error %d", i, n, e, x.n, x.e)
		}
	}
}

func TestShowsAsksEachBreath(t *testing.T) {
	did := map[api.Errno]int{}
	someTexts(t, 800, 12, func(r *rand.Rand, x text.Text) {
		good, e := text.Marks(x)
		if e != api.OK {
			good = make([]int, len(x.Words)+1)
		}
		for range 20 {
			marks := slices.Clone(good)
			for range 1 + r.Intn(2) {
				i := r.Intn(len(marks))
				marks[i] = min(99, max(0, marks[i]+r.Intn(4)-2))
			}
			want, f := marks[len(x.Words)], api.OK
			if !holds(x, marks) {
				want, f = 0, api.ErrFalse
			}
			did[f]++
			if n, e := text.Shows(x, marks); n != want || e != f {
				t.Error(marks, n, e, "want", want, f)
			}
		}
	})
	if did[api.OK] < 1000 || did[api.ErrFalse] < 1000 {
		t.Error("too few of a kind:", did)
	}
}

func TestLone(t *testing.T) {
	someTexts(t, 400, 8, func(_ *rand.Rand, x text.Text) {
		want := loneWords(x)
		if got, e := text.Lone(x); e != api.OK || !slices.Equal(got, want) {
			t.Error(got, e, "want", want)
		}
	})
	someTexts(t, 12, 12, func(_ *rand.Rand, x text.Text) {
		want := loneWords(x)
		if got, e := text.Lone(x); e != api.OK || !slices.Equal(got, want) {
			t.Error(got, e, "want", want)
		}
	})
}

func TestLoneInTheExamples(t *testing.T) {
	stopless := plain(2, 1, 1, 1, 1)
	stopless.Words[0].Stop, stopless.Words[1].Stop, stopless.Words[2].Stop = false, false, false
	for i, x := range []struct {
		t    text.Text
		want []int
	}{
		{gate(5), list(0, 4, 6)},
		{plain(1, 1), list(0)},
		{plain(1, 9), list(0)},
		{plain(12, 1, 1, 1), list(0)},
		{plain(2, 1, 1, 1, 1), list(0, 2)},
		{plain(2, 1, 1, 1, 1, 1), list(0, 2, 4)},
		// No breath is right, so no words are together.
		{stopless, list(0, 1, 2, 3)},
		{plain(1, 2, 2, 2, 2, 2, 2, 2, 2, 2, 2, 2, 2), list(0, 1, 2, 3, 4, 5, 6, 7, 8, 9, 10, 11)},
		// A breath counts that no right reading has.
		{plain(3, 9, 1, 1, 1, 1), list(0, 1, 4)},
	} {
		if got, e := text.Lone(x.t); e != api.OK || !slices.Equal(got, x.want) {
			t.Errorf("%d: %v, error %d, want %v", i, got, e, x.want)
		}
	}
}

// P2.5

func TestEven(t *testing.T) {
	someTexts(t, 1500, 10, func(_ *rand.Rand, x text.Text) {
		all := rightReadings(x)
		got, most, e := text.Even(x)
		if len(all) == 0 {
			if len(got) != 0 || most != 0 || e != api.ErrNone {
				t.Error(got, most, e)
			}
			return
		}
		best := all[0]
		for _, l := range all {
			if greatest(x, l) < greatest(x, best) {
				best = l
			}
		}
		if e != api.OK || sumOf(got) != len(x.Words) || !isRight(x, got) || len(got) != len(best) || most != greatest(x, best) || greatest(x, got) != most {
			t.Error(got, most, e, "want", best, greatest(x, best))
		}
	})
}

func TestEvenInTheExamples(t *testing.T) {
	for i, x := range []struct {
		t       text.Text
		reading []int
		most    int
		e       api.Errno
	}{
		{gate(5), list(2, 4, 2), 4, api.OK},
		{plain(40, 9, 9, 9, 9, 4), list(1, 1, 1, 1, 1), 9, api.OK},
		{plain(12, 1, 2, 9, 8, 1, 2), list(2, 1, 2, 1), 9, api.OK},
		{plain(40, 9, 1, 1, 1), list(1, 3), 9, api.OK},
		{plain(1, 1), list(1), 1, api.OK},
		{plain(1, 2), nil, 0, api.ErrNone},
	} {
		got, most, e := text.Even(x.t)
		if len(got) != len(x.reading) || most != x.most || e != x.e || e == api.OK && (!isRight(x.t, got) || greatest(x.t, got) != most) {
			t.Errorf("%d: %v, %d, error %d, want one like %v, %d, error %d", i, got, most, e, x.reading, x.most, x.e)
		}
	}
}

func TestEvenOfAFullBreath(t *testing.T) {
	whole := text.Text{Words: []text.Word{word(9, 0, false), word(9, 0, false), word(9, 0, false), word(9, 0, false), word(4, 0, false)}, Breath: 40}
	if got, most, e := text.Even(whole); !slices.Equal(got, list(5)) || most != 40 || e != api.OK {
		t.Error(got, most, e)
	}
}

// P2.6

func TestAstrayIsTheFirstTurnAndRun(t *testing.T) {
	did := map[api.Errno]int{}
	someTexts(t, 1500, 9, func(_ *rand.Rand, x text.Text) {
		for _, l := range readings(len(x.Words)) {
			turn, run, want := 0, api.Span{}, api.ErrFalse
			if isRight(x, l) {
				turn, run, want = astray(x, l)
			}
			did[want]++
			if got, span, e := text.Astray(x, l); got != turn || span != run || e != want {
				t.Error(l, got, span, e, "want", turn, run, want)
			}
		}
	})
	if did[api.OK] < 300 || did[api.ErrNone] < 300 {
		t.Error("too few of a kind:", did)
	}
}

func TestAstrayInTheExamples(t *testing.T) {
	several := plain(40, 1, 1, 1, 1, 1, 1)
	several.Turns = []text.Turn{turn(5, 2, 3), turn(0, 2, 3)}
	for i, x := range []struct {
		t    text.Text
		l    []int
		turn int
		run  api.Span
		e    api.Errno
	}{
		{gate(5), list(2, 4, 2), 0, span(0, 0), api.ErrNone},
		{gate(5), list(4, 4), 0, span(0, 0), api.ErrFalse},
		{gate(7), list(4, 2, 2), 0, span(1, 2), api.OK},
		{gate(7), list(2, 2, 2, 2), 0, span(2, 3), api.OK},
		{gate(7), list(2, 4, 2), 0, span(0, 0), api.ErrNone},
		// The first turn decides, and of its runs the one that begins first.
		{several, list(3, 1, 2), 0, span(0, 1), api.OK},
		{several, list(1, 2, 1, 1, 1), 0, span(0, 2), api.OK},
		{several, list(3, 3), 0, span(0, 0), api.ErrNone},
		{several, list(1, 2, 3), 1, span(1, 2), api.OK},
	} {
		if got, run, e := text.Astray(x.t, x.l); got != x.turn || run != x.run || e != x.e {
			t.Errorf("%d: %d, %v, error %d, want %d, %v, error %d", i, got, run, e, x.turn, x.run, x.e)
		}
	}
}

// sureCheck holds Surest against all readings, and reports whether a sure reading needs more breaths than a right one.
func sureCheck(t *testing.T, x text.Text) bool {
	t.Helper()
	var best []int
	all := rightReadings(x)
	for _, l := range all {
		if _, _, e := astray(x, l); e == api.ErrNone && best == nil {
			best = l
		}
	}
	got, e := text.Surest(x)
	if best == nil {
		if len(got) != 0 || e != api.ErrNone {
			t.Error(got, e)
		}
		return false
	}
	_, _, f := astray(x, got)
	if e != api.OK || sumOf(got) != len(x.Words) || !isRight(x, got) || f != api.ErrNone || len(got) != len(best) {
		t.Error(got, e, f, "want one like", best)
	}
	return len(best) > len(all[0])
}

func TestSurest(t *testing.T) {
	more := 0
	someTexts(t, 3000, 9, func(r *rand.Rand, x text.Text) {
		sureCheck(t, x)
		// With breaths that have room for two words or three, and much that is turned, being sure has its price.
		x.Breath = 5
		for i := range x.Words {
			x.Words[i] = word(1+r.Intn(4), 0, true)
		}
		for i := range len(x.Words) - 3 {
			if r.Intn(4) == 0 && len(x.Turns) < text.MaxTurns {
				x.Turns = append(x.Turns, turn(i, i+1, i+3))
			}
		}
		if sureCheck(t, x) {
			more++
		}
	})
	if more < 10 {
		t.Error("hardly any sure reading needs more breaths than a right one:", more)
	}
}

func TestSurestInTheExamples(t *testing.T) {
	split := plain(2, 1, 1, 1, 1)
	split.Turns = []text.Turn{turn(0, 2, 3)}
	ahead := plain(2, 1, 1, 1, 1)
	ahead.Turns = []text.Turn{turn(3, 0, 1)}
	// The reading 2, 2, 1 is right, but breaks between the word 1 and its Core.
	dear := plain(5, 4, 1, 2, 3, 3)
	dear.Turns = []text.Turn{turn(1, 2, 4)}
	behind := plain(5, 3, 3, 2, 1, 4)
	behind.Turns = []text.Turn{turn(3, 0, 2)}
	for i, x := range []struct {
		t    text.Text
		want []int
		e    api.Errno
	}{
		{gate(5), list(2, 4, 2), api.OK},
		{gate(7), list(2, 4, 2), api.OK},
		// Right readings there are, but none is sure.
		{split, nil, api.ErrNone},
		{ahead, nil, api.ErrNone},
		{dear, list(1, 2, 1, 1), api.OK},
		{behind, list(1, 1, 2, 1), api.OK},
		{plain(1, 2), nil, api.ErrNone},
	} {
		if got, e := text.Surest(x.t); !slices.Equal(got, x.want) || e != x.e {
			t.Errorf("%d: %v, error %d, want %v, error %d", i, got, e, x.want, x.e)
		}
	}
}
