package echo

import (
	"iter"
	"slices"
)

// far tells, by the sides of both texts, how many of their words are left when a reading is gone through from its end.
type far [Noise]int

// end returns how far it is if all words of both texts are left.
func (w work) end() far { return far{OfA: len(w.texts[OfA]), OfB: len(w.texts[OfB])} }

// before returns what is left before a place.
func (f far) before(p Place) far {
	if p.Side != Noise {
		f[p.Side] = p.At
	}
	return f
}

// lost returns how many words, of those that are left, stand behind a place of a text. They were not heard.
func (f far) lost(p Place) int { return f[p.Side] - 1 - p.At }

// standing yields the places of a side's text, of those that are left, where a word that was heard stands.
func (w work) standing(heard int, side Side, left far) iter.Seq[int] {
	return func(yield func(int) bool) {
		for at, word := range w.texts[side][:left[side]] {
			if word == w.Heard[heard] && !yield(at) {
				return
			}
		}
	}
}

// choices returns the places that a word that was heard can have.
func (w work) choices(heard int, left far) []Place {
	list := []Place{{Side: Noise}}
	for side := OfA; side <= OfB; side++ {
		for at := range w.standing(heard, side, left) {
			list = append(list, Place{side, at})
		}
	}
	return those(list, func(p Place) bool { return w.counts(heard, p.Side) })
}

// isReading reports whether places, one for each word that was heard, are a reading.
func (w work) isReading(places []Place) bool {
	left := w.end()
	for heard, p := range slices.Backward(places) {
		if !slices.Contains(w.choices(heard, left), p) {
			return false
		}
		left = left.before(p)
	}
	return true
}

func isKnown(p Place) bool { return p.Side != Noise }

// faults returns those of a reading. A word that is known is none, neither as one that was heard nor as one of a text.
func (w work) faults(reading []Place) int {
	total := len(w.Heard) + len(w.texts[OfA]) + len(w.texts[OfB])
	return total - 2*len(those(reading, isKnown))
}

// reading returns a best one.
func (w work) reading() []Place {
	t := w.found()
	var read func(many int, left far) []Place
	read = func(many int, left far) []Place {
		if many == 0 {
			return nil
		}
		place := Place{Side: Noise}
	search:
		for side := OfA; side <= OfB; side++ {
			for at := range w.standing(many-1, side, left) {
				p := Place{side, at}
				if t.at(many-1, left.before(p))+left.lost(p) == t.at(many, left) {
					place = p
					break search
				}
			}
		}
		return append(read(many-1, left.before(place)), place)
	}
	return read(len(w.Heard), w.end())
}

// tally tells how many words are known in the readings in which the most are, and how many such readings there are.
type tally struct{ known, many int }

// and returns the tally of the same readings if the next word has a place.
func (t tally) and(p Place) tally {
	if isKnown(p) {
		t.known++
	}
	return t
}

// or returns the tally of the readings of both.
func (t tally) or(other tally) tally {
	best := tally{known: most(t.known, other.known)}
	for _, x := range []tally{t, other} {
		if x.known == best.known {
			best.many += x.many
		}
	}
	return best
}

// counted returns the tally of all readings. Those that have come as far have the same ways to go on, so only those with
// the most known words are counted.
func (w work) counted() tally {
	readings := map[far]tally{w.end(): {many: 1}}
	for heard := range slices.Backward(w.Heard) {
		readings = w.countedWith(heard, readings)
	}
	var total tally
	for _, t := range readings {
		total = total.or(t)
	}
	return total
}

// countedWith returns the tallies of readings that have the place of a word more, by how far they have come.
func (w work) countedWith(heard int, readings map[far]tally) map[far]tally {
	next := map[far]tally{}
	for left, t := range readings {
		for _, p := range w.choices(heard, left) {
			before := left.before(p)
			next[before] = next[before].or(t.and(p))
		}
	}
	return next
}

// sure returns for each word that was heard the side of which it is in all best readings, or Open.
func (w work) sure() []Side {
	best := w.counted()
	sides := make([]Side, len(w.Heard))
	for heard := range w.Heard {
		for side := OfA; side <= Noise; side++ {
			if w.only(heard, side).counted() == best {
				sides[heard] = side
			}
		}
	}
	return sides
}
