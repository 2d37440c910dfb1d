package echo_test

import (
	"math/rand"
	"slices"
	"testing"

	"oyez/api"
	"oyez/echo"
)

// P10.7 and P0.11

// leastOf returns the least faults of two texts, and that there is no error.
func leastOf(t *testing.T, e echo.Echo, p echo.Pair) int {
	t.Helper()
	n, f := echo.Least(e, p)
	if f != api.OK {
		t.Error(p, f)
	}
	return n
}

func farOf(t *testing.T, e echo.Echo, a, b int) int {
	t.Helper()
	n, f := echo.Distance(e, a, b)
	if f != api.OK {
		t.Error(a, b, f)
	}
	return n
}

func TestTextsAreToldJustIfTheyCanBeBehindIt(t *testing.T) {
	told := 0
	someEchoes(t, 1500, echo.MaxHeard, func(_ *rand.Rand, e echo.Echo) {
		found, f := echo.Pairs(e)
		if f != api.OK {
			t.Error(f)
		}
		for _, p := range allPairs(e) {
			if slices.Contains(found, p) {
				reading, _ := echo.Reading(e, p)
				if n, f := echo.Faults(e, p, reading); n > e.Faults || f != api.OK {
					t.Error(p, reading, n, f)
				}
				told++
				continue
			}
			marks, _ := echo.Marks(e, p)
			if n, f := echo.Shows(e, p, marks); n <= e.Faults || f != api.OK {
				t.Error(p, marks, n, f)
			}
		}
	})
	if told < 1000 {
		t.Error("too few pairs that can be:", told)
	}
}

func TestAReadingHasAsFewFaultsAsMarksShow(t *testing.T) {
	someEchoes(t, 1500, echo.MaxHeard, func(r *rand.Rand, e echo.Echo) {
		p := somePair(r, e)
		reading, _ := echo.Reading(e, p)
		marks, _ := echo.Marks(e, p)
		n, f := echo.Faults(e, p, reading)
		m, g := echo.Shows(e, p, marks)
		if n != m || n != leastOf(t, e, p) || f != api.OK || g != api.OK {
			t.Error(p, n, m, f, g)
		}
		// no reading has fewer, and with a word less that is known it has two more
		for i, x := range reading {
			other := slices.Clone(reading)
			other[i] = noise()
			more, f := echo.Faults(e, p, other)
			if x == noise() && more != n || x != noise() && more != n+2 || f != api.OK {
				t.Error(p, other, more, n, f)
			}
		}
	})
}

func TestLeastFaultsAreEvenJustIfTheWordsAre(t *testing.T) {
	someEchoes(t, 1500, echo.MaxHeard, func(_ *rand.Rand, e echo.Echo) {
		for _, p := range allPairs(e) {
			words := len(e.Heard) + len(e.Texts[p.A]) + len(e.Texts[p.B])
			if n := leastOf(t, e, p); n%2 != words%2 || n > words {
				t.Error(p, n, words)
			}
		}
	})
}

func TestTheTextsOfAPairCanBeExchanged(t *testing.T) {
	swap := sides(echo.Open, echo.OfB, echo.OfA, echo.Noise)
	someEchoes(t, 300, echo.MaxHeard, func(r *rand.Rand, e echo.Echo) {
		p := somePair(r, e)
		q := pair(p.B, p.A)
		many, f := echo.Count(e, p)
		other, g := echo.Count(e, q)
		if leastOf(t, e, p) != leastOf(t, e, q) || many != other || f != api.OK || g != api.OK {
			t.Error(p, many, other, f, g)
		}
		sure, _ := echo.Sure(e, p)
		swapped, _ := echo.Sure(e, q)
		for i, side := range sure {
			if swapped[i] != swap[side] {
				t.Error(p, sure, swapped)
			}
		}
	})
}

func TestAWordMoreMakesTheLeastFaultsOneMoreOrOneLess(t *testing.T) {
	var more, less int
	someEchoes(t, 1500, echo.MaxHeard-1, func(r *rand.Rand, e echo.Echo) {
		p := somePair(r, e)
		n := leastOf(t, e, p)
		for word := range echo.MaxWord + 1 {
			other := clone(e)
			other.Heard = slices.Insert(other.Heard, r.Intn(len(e.Heard)+1), word)
			switch leastOf(t, other, p) {
			case n + 1:
				more++
			case n - 1:
				less++
			default:
				t.Error(p, other.Heard, n, leastOf(t, other, p))
			}
		}
	})
	if more < 1000 || less < 1000 {
		t.Error("too few words of a kind:", more, less)
	}
}

func TestWhatWasHeardWholeHasNoFaults(t *testing.T) {
	whole := 0
	someEchoes(t, 1500, echo.MaxHeard, func(r *rand.Rand, e echo.Echo) {
		p := somePair(r, e)
		a, b := e.Texts[p.A], e.Texts[p.B]
		if len(a)+len(b) > echo.MaxHeard {
			return
		}
		whole++
		for _, heard := range lists(slices.Concat(a, b), slices.Concat(b, a), mixed(r, a, b)) {
			other := clone(e)
			other.Heard = heard
			if n := leastOf(t, other, p); n != 0 {
				t.Error(p, heard, n)
			}
			q := pair(min(p.A, p.B), max(p.A, p.B))
			if found, f := echo.Pairs(other); !slices.Contains(found, q) || f != api.OK {
				t.Error(p, heard, found, f)
			}
		}
	})
	if whole < 500 {
		t.Error("too few pairs that can be heard whole:", whole)
	}
}

func TestAnotherTextChangesTheLeastFaultsByAtMostItsDistance(t *testing.T) {
	just := 0
	someEchoes(t, 800, echo.MaxHeard, func(_ *rand.Rand, e echo.Echo) {
		for one := range e.Texts {
			for other := range e.Texts {
				far := farOf(t, e, one, other)
				for text := range e.Texts {
					n := leastOf(t, e, pair(text, one)) - leastOf(t, e, pair(text, other))
					if n > far || -n > far {
						t.Error(text, one, other, n, far)
					}
					if n == far && n > 0 {
						just++
					}
				}
			}
		}
	})
	if just < 500 {
		t.Error("too few texts that change so much:", just)
	}
}

func TestNoDistanceIsGreaterThanTheSumOfTwo(t *testing.T) {
	someEchoes(t, 800, 0, func(_ *rand.Rand, e echo.Echo) {
		for a := range e.Texts {
			for b := range e.Texts {
				far := farOf(t, e, a, b)
				if far != farOf(t, e, b, a) || (far == 0) != slices.Equal(e.Texts[a], e.Texts[b]) {
					t.Error(a, b, far)
				}
				for c := range e.Texts {
					if sum := farOf(t, e, a, c) + farOf(t, e, c, b); far > sum {
						t.Error(a, b, c, far, sum)
					}
				}
			}
		}
	})
}

func TestTextsThatAreNotConfusedAreNeverTakenForEachOther(t *testing.T) {
	words := list(0, 1, 2)
	count := map[bool]int{}
	r := rand.New(rand.NewSource(10))
	for range 300 {
		e := texts(r.Intn(4), someWords(r, 1+r.Intn(5), 3), someWords(r, 1+r.Intn(5), 3))
		confused, f := echo.Confused(e)
		both := false
		other := near(e.Texts[1], words, e.Faults)
		for l := range near(e.Texts[0], words, e.Faults) {
			_, is := other[l]
			both = both || is
		}
		if both != slices.Equal(confused, pairs(pair(0, 1))) || f != api.OK {
			t.Error(e, confused, both, f)
		}
		count[both]++
		middle, f := echo.Middle(e, 0, 1)
		if both && (distanceOf(middle, e.Texts[0]) > e.Faults || distanceOf(middle, e.Texts[1]) > e.Faults) || f != api.OK {
			t.Error(e, middle, f)
		}
	}
	if count[true] < 50 || count[false] < 50 {
		t.Error("too few texts of a kind:", count)
	}
}
