package text_test

import (
	"math"
	"math/rand"
	"slices"
	"testing"

	"oyez/api"
	"oyez/text"
)

// P2.7

func TestKeeps(t *testing.T) {
	someTexts(t, 200, 8, func(_ *rand.Rand, x text.Text) {
		sets(len(x.Words), func(set int, l []int) bool {
			want, weight := keeps(x, set)
			if is, n, e := text.Keeps(x, l); is != want || n != weight || e != api.OK {
				t.Error(l, is, n, e, "want", want, weight)
			}
			return true
		})
	})
}

func TestKeepsInTheExamples(t *testing.T) {
	for i, x := range []struct {
		kept   []int
		is     bool
		weight int
		e      api.Errno
	}{
		{list(1, 2, 3, 4, 5), true, 13, api.OK},
		{list(1, 2, 4, 5), false, 10, api.OK},
		{list(1, 3, 5), true, 10, api.OK},
		{list(4), true, 3, api.OK},
		{list(0, 1, 2, 3, 4, 5, 6, 7), true, 15, api.OK},
		{nil, false, 0, api.ErrCount},
		{list(8), false, 0, api.ErrAbsent},
		{list(-1), false, 0, api.ErrAbsent},
		{list(math.MinInt), false, 0, api.ErrAbsent},
		{list(1, 1, math.MaxInt), false, 0, api.ErrAbsent},
		{list(5, 4, -1), false, 0, api.ErrAbsent},
		{list(0, 0), false, 0, api.ErrOrder},
		{list(0, 2, 1), false, 0, api.ErrOrder},
		{list(7, 0), false, 0, api.ErrOrder},
		{slices.Repeat(list(7), 100000), false, 0, api.ErrOrder},
	} {
		if is, n, e := text.Keeps(gate(5), x.kept); is != x.is || n != x.weight || e != x.e {
			t.Errorf("%d: %v, %d, error %d, want %v, %d, error %d", i, is, n, e, x.is, x.weight, x.e)
		}
		want := x.e
		if want == api.OK && !x.is {
			want = api.ErrFalse
		}
		if short, e := text.Shorter(gate(5), x.kept); e != want || e != api.OK && !zero([]any{short}) {
			t.Errorf("%d: Shorter: %v, error %d, want %d", i, short, e, want)
		}
	}
	heavy := text.Text{Words: slices.Repeat([]text.Word{word(1, 20, true)}, 12), Breath: 1}
	if is, n, e := text.Keeps(heavy, listOf(words(0, 11))); !is || n != 240 || e != api.OK {
		t.Error(is, n, e)
	}
}

// shortened returns the text of kept words alone.
func shortened(t text.Text, set int) text.Text {
	short := text.Text{Breath: t.Breath}
	at := map[int]int{}
	for i, x := range t.Words {
		last := len(short.Words) - 1
		if set&(1<<i) != 0 {
			at[i] = last + 1
			short.Words = append(short.Words, x)
		} else if last >= 0 && x.Stop {
			short.Words[last].Stop = true
		}
	}
	for _, u := range t.Turns {
		needed := words(u.Core.Lo, u.Core.Hi) | 1<<u.Word
		if set&needed == needed {
			short.Turns = append(short.Turns, turn(at[u.Word], at[u.Core.Lo], at[u.Core.Hi]))
		}
	}
	return short
}

func same(a, b text.Text) bool {
	return slices.Equal(a.Words, b.Words) && slices.Equal(a.Turns, b.Turns) && a.Breath == b.Breath
}

func TestShorter(t *testing.T) {
	did := map[bool]int{}
	someTexts(t, 300, 8, func(_ *rand.Rand, x text.Text) {
		sets(len(x.Words), func(set int, l []int) bool {
			want, f := text.Text{}, api.ErrFalse
			if is, _ := keeps(x, set); is {
				want, f = shortened(x, set), api.OK
			}
			did[len(want.Turns) > 0]++
			if got, e := text.Shorter(x, l); e != f || !same(got, want) {
				t.Error(l, got, e, "want", want, f)
			}
			return true
		})
	})
	if did[true] < 100 {
		t.Error("hardly any turn is kept:", did)
	}
}

func TestShorterOfSomeWords(t *testing.T) {
	two := gate(5)
	two.Turns = append(two.Turns, turn(0, 7, 7), turn(6, 1, 1))
	for i, x := range []struct {
		t    text.Text
		kept []int
		want text.Text
	}{
		{gate(5), list(0, 3, 4, 5, 6), text.Text{Words: []text.Word{word(1, 0, true), word(1, 3, true), word(1, 3, false), word(1, 3, true), word(1, 0, true)}, Turns: []text.Turn{turn(1, 2, 3)}, Breath: 5}},
		// A stop ahead of all kept words is gone, as the place 0 needs none.
		{gate(5), list(2, 4), text.Text{Words: []text.Word{word(1, 0, true), word(1, 3, true)}, Breath: 5}},
		{gate(5), list(4), text.Text{Words: []text.Word{word(1, 3, true)}, Breath: 5}},
		{gate(5), list(0, 1, 2), text.Text{Words: []text.Word{word(1, 0, false), word(1, 4, true), word(1, 0, true)}, Breath: 5}},
		{two, list(0, 2, 7), text.Text{Words: []text.Word{word(1, 0, true), word(1, 0, true), word(1, 2, true)}, Turns: []text.Turn{turn(0, 2, 2)}, Breath: 5}},
		{two, list(0, 1, 2, 3, 4, 5, 6, 7), two},
	} {
		if got, e := text.Shorter(x.t, x.kept); e != api.OK || !same(got, x.want) {
			t.Errorf("%d: %v, error %d, want %v", i, got, e, x.want)
		}
	}
	stopless := text.Text{Words: []text.Word{word(1, 0, true), word(2, 1, false), word(3, 2, false)}, Breath: 7}
	want := text.Text{Words: []text.Word{word(2, 1, false)}, Breath: 7}
	if got, e := text.Shorter(stopless, list(1)); e != api.OK || !same(got, want) {
		t.Error(got, e)
	}
}

func TestLeast(t *testing.T) {
	someTexts(t, 150, 8, func(_ *rand.Rand, x text.Text) {
		_, all := keeps(x, words(0, len(x.Words)-1))
		for weight := 0; weight <= all+2; weight++ {
			want, f := leastWords(x, weight), api.OK
			if want == nil {
				f = api.ErrNone
			}
			if got, e := text.Least(x, weight); e != f || !slices.Equal(got, want) {
				t.Error(weight, got, e, "want", want, f)
			}
		}
	})
}

func TestLeastInTheExamples(t *testing.T) {
	turned := func(first, second int) text.Text {
		return text.Text{Words: []text.Word{word(1, first, true), word(1, second, true)}, Turns: []text.Turn{turn(1, 0, 0)}, Breath: 1}
	}
	// Each word is turned by the other one, so that none can stand alone.
	both := turned(5, 5)
	both.Turns = append(both.Turns, turn(0, 1, 1))
	for i, x := range []struct {
		t      text.Text
		weight int
		want   []int
		e      api.Errno
	}{
		{gate(5), 7, list(1, 3), api.OK},
		{gate(5), 0, list(0), api.OK},
		{gate(5), 1, list(1), api.OK},
		{gate(5), 10, list(1, 3, 4), api.OK},
		{gate(5), 15, list(1, 3, 4, 5, 7), api.OK},
		{gate(5), 16, nil, api.ErrNone},
		{gate(5), math.MaxInt, nil, api.ErrNone},
		{gate(5), -1, nil, api.ErrRange},
		{gate(5), math.MinInt, nil, api.ErrRange},
		{turned(5, 5), 5, list(1), api.OK},
		{turned(5, 0), 5, list(0, 1), api.OK},
		{turned(5, 0), 0, list(1), api.OK},
		{both, 0, list(0, 1), api.OK},
		{both, 11, nil, api.ErrNone},
		{plain(1, 1), 0, list(0), api.OK},
		{plain(1, 1), 1, nil, api.ErrNone},
	} {
		if got, e := text.Least(x.t, x.weight); !slices.Equal(got, x.want) || e != x.e {
			t.Errorf("%d: %v, error %d, want %v, error %d", i, got, e, x.want, x.e)
		}
	}
	heavy := text.Text{Words: slices.Repeat([]text.Word{word(1, 20, true)}, 12), Breath: 1}
	if got, e := text.Least(heavy, 240); e != api.OK || !slices.Equal(got, listOf(words(0, 11))) {
		t.Error(got, e)
	}
}

func TestSpare(t *testing.T) {
	someTexts(t, 1000, 12, func(_ *rand.Rand, x text.Text) {
		var want []int
		for i := range x.Words {
			others := words(0, len(x.Words)-1) &^ (1 << i)
			if is, _ := keeps(x, others); is && others != 0 {
				want = append(want, i)
			}
		}
		if got, e := text.Spare(x); e != api.OK || !slices.Equal(got, want) {
			t.Error(got, e, "want", want)
		}
	})
	if got, e := text.Spare(plain(1, 1)); e != api.OK || len(got) != 0 {
		t.Error("the only word:", got, e)
	}
	if got, e := text.Spare(gate(5)); e != api.OK || !slices.Equal(got, list(0, 1, 2, 4, 5, 6, 7)) {
		t.Error(got, e)
	}
}

func TestPrice(t *testing.T) {
	for i, x := range []struct {
		t        text.Text
		pence, n int
		e        api.Errno
	}{
		{plain(1, 1, 2, 3), 1, 3, api.OK},
		{plain(1, 1, 2, 3, 4), 1, 5, api.OK},
		{plain(1, 4, 9), 7, 28, api.OK},
		{plain(1, 9, 9, 9, 9, 9, 9, 9, 9, 9, 9, 9, 9), 100, 2400, api.OK},
		{plain(1, 3), 100, 100, api.OK},
		{plain(1, 1), 0, 0, api.ErrRange},
		{plain(1, 1), -1, 0, api.ErrRange},
		{plain(1, 1), 101, 0, api.ErrRange},
		{plain(1, 1), math.MaxInt, 0, api.ErrRange},
		{plain(1, 1), math.MinInt, 0, api.ErrRange},
	} {
		if n, e := text.Price(x.t, x.pence); n != x.n || e != x.e {
			t.Errorf("%d: %d, error %d, want %d, error %d", i, n, e, x.n, x.e)
		}
	}
}
