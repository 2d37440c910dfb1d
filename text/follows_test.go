package text_test

import (
	"math/rand"
	"slices"
	"testing"

	"oyez/api"
	"oyez/text"
)

// P2.8 and P0.3

func TestTheReadingThatIsToldIsTheBest(t *testing.T) {
	someTexts(t, 1000, 12, func(_ *rand.Rand, x text.Text) {
		fewest, e := text.Fewest(x)
		if n, _ := text.Count(x); (n == 0) != (e == api.ErrNone) {
			t.Error(n, e)
		}
		if e != api.OK {
			return
		}
		marks, _ := text.Marks(x)
		if n, e := text.Shows(x, marks); n != len(fewest) || e != api.OK {
			t.Error(marks, n, e, fewest)
		}
		from := 0
		for _, n := range fewest {
			if said, e := text.Says(x, span(from, from+n-1)); len(said) != 0 || e != api.OK {
				t.Error(fewest, "says otherwise", said, e)
			}
			from += n
		}
		if _, _, e := text.Wrong(x, fewest); e != api.ErrNone {
			t.Error(fewest, e)
		}
	})
}

func TestNoRunOfASureReadingSaysOtherwise(t *testing.T) {
	someTexts(t, 1000, 12, func(_ *rand.Rand, x text.Text) {
		sure, e := text.Surest(x)
		if e != api.OK {
			return
		}
		fewest, f := text.Fewest(x)
		if f != api.OK || len(fewest) > len(sure) {
			t.Error(fewest, f, sure)
		}
		if _, _, e := text.Astray(x, sure); e != api.ErrNone {
			t.Error(sure, e)
		}
		l := ends(sure)
		for first := range sure {
			for last := first + 1; last <= len(sure); last++ {
				if said, _ := text.Says(x, span(l[first], l[last]-1)); len(said) != 0 {
					t.Error(sure, first, last, said)
				}
			}
		}
	})
}

// leads reports whether a place is between the Word of a turn and the nearest word of its Core.
func leads(x text.Text, place int) bool {
	return slices.ContainsFunc(x.Turns, func(u text.Turn) bool {
		near := u.Core.Lo
		if u.Word > u.Core.Hi {
			near = u.Core.Hi
		}
		return min(u.Word, near) < place && place <= max(u.Word, near)
	})
}

func TestSureJustIfItBreaksNowhereBetweenWordAndCore(t *testing.T) {
	someTexts(t, 1000, 10, func(_ *rand.Rand, x text.Text) {
		for _, l := range rightReadings(x) {
			_, _, e := text.Astray(x, l)
			places := ends(l)
			breaks := slices.ContainsFunc(places[1:len(places)-1], func(place int) bool { return leads(x, place) })
			if breaks != (e == api.OK) {
				t.Error(l, breaks, e)
			}
		}
	})
}

func TestAStopMoreOrALongerBreath(t *testing.T) {
	someTexts(t, 1000, 12, func(_ *rand.Rand, x text.Text) {
		fewest, e := text.Fewest(x)
		if e != api.OK {
			return
		}
		for i := range x.Words {
			more := clone(x)
			more.Words[i].Stop = true
			if l, e := text.Fewest(more); e != api.OK || len(l) > len(fewest) {
				t.Error("a stop behind", i, l, e, fewest)
			}
		}
		for longer := x.Breath; longer <= text.MaxBreath; longer++ {
			more := clone(x)
			more.Breath = longer
			if l, e := text.Fewest(more); e != api.OK || len(l) > len(fewest) {
				t.Error("a breath of", longer, l, e, fewest)
			}
		}
	})
}

func TestLoneWordsAndBreaths(t *testing.T) {
	did := 0
	someTexts(t, 2000, 12, func(_ *rand.Rand, x text.Text) {
		lone, _ := text.Lone(x)
		fewest, e := text.Fewest(x)
		if e == api.OK && len(lone) > len(fewest) {
			t.Error(lone, fewest)
		}
		if e == api.OK && len(x.Turns) == 0 {
			did++
			if len(lone) != len(fewest) {
				t.Error(lone, fewest, "without turns")
			}
		}
	})
	if did < 100 {
		t.Error("too few texts without turns:", did)
	}
}

func TestWordsThatKeepTheSense(t *testing.T) {
	someTexts(t, 300, 8, func(_ *rand.Rand, x text.Text) {
		all := listOf(words(0, len(x.Words)-1))
		if is, _, e := text.Keeps(x, all); !is || e != api.OK {
			t.Error("all words together", is, e)
		}
		if whole, e := text.Shorter(x, all); e != api.OK || !same(whole, shortened(x, words(0, len(x.Words)-1))) || !slices.Equal(whole.Turns, x.Turns) {
			t.Error(whole, e)
		}
		sets(len(x.Words), func(_ int, l []int) bool {
			is, _, _ := text.Keeps(x, l)
			for i, word := range l {
				turns := slices.ContainsFunc(x.Turns, func(u text.Turn) bool { return u.Word == word })
				without := slices.Delete(slices.Clone(l), i, i+1)
				if keeps, _, _ := text.Keeps(x, without); is && !turns && len(without) > 0 && !keeps {
					t.Error(l, "keeps the sense, but not without", word)
				}
			}
			return true
		})
	})
}

func TestAShorterTextIsOne(t *testing.T) {
	someTexts(t, 1000, 12, func(r *rand.Rand, x text.Text) {
		kept, e := text.Least(x, r.Intn(20))
		if e != api.OK {
			return
		}
		short, e := text.Shorter(x, kept)
		if e != api.OK || text.Check(short) != api.OK {
			t.Error(kept, short, e)
		}
		n, _ := text.Price(x, 1)
		if m, e := text.Price(short, 1); e != api.OK || m > n {
			t.Error(kept, m, n, e)
		}
	})
}
