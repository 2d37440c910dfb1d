package night

import (
	"iter"
	"slices"
)

// explained reports whether there is an explanation.
func (w work) explained() bool { return w.count() > 0 }

// count returns how many explanations there are: what is known of an hour does not hang on other hours.
func (w work) count() int {
	many := 1
	for hour := range len(w.Hours) {
		fit := 0
		for range w.sets(hour) {
			fit++
		}
		many *= fit
	}
	return many
}

// verdicts returns what is known of each man in an hour that some set fits.
func (w work) verdicts(hour int) []Verdict {
	always, sometimes := w.allMen(), 0
	for set := range w.sets(hour) {
		always &= set
		sometimes |= set
	}
	verdicts := make([]Verdict, len(w.Listens))
	for man := range verdicts {
		if has(always, man) {
			verdicts[man] = Slept
		} else if !has(sometimes, man) {
			verdicts[man] = Woke
		}
	}
	return verdicts
}

// lists yields all lists of so many men, in lexicographic order. The next list may be written over the one before.
func (w work) lists(many int) iter.Seq[[]int] {
	return func(yield func([]int) bool) {
		var extend func(list []int, next int) bool
		extend = func(list []int, next int) bool {
			if len(list) == many {
				return yield(list)
			}
			for man := next; man < len(w.Listens); man++ {
				if !extend(append(list, man), man+1) {
					return false
				}
			}
			return true
		}
		extend(make([]int, 0, many), 0)
	}
}

func setOf(men []int) int {
	set := 0
	for _, man := range men {
		set |= 1 << man
	}
	return set
}

// fewestMen returns the first of the shortest lists of men so that some explanation has nobody else.
func (w work) fewestMen() []int {
	var fewest []int
search:
	for many := range len(w.Listens) + 1 {
		for men := range w.lists(many) {
			others := w.allMen() &^ setOf(men)
			if w.only(func(set int) bool { return set&others == 0 }).explained() {
				fewest = slices.Clone(men)
				break search
			}
		}
	}
	return fewest
}

// split returns how many explanations there are if the mark at a place is Heard, and if it is Silent.
func (w work) split(p Place) (heard, silent int) {
	heard = atWork(w.with(p, Heard), w.cried).count()
	silent = atWork(w.with(p, Silent), w.cried).count()
	return heard, silent
}

// ask returns that of some places after which the fewest explanations are left, whatever is answered, and how many these are at most.
func (w work) ask(places []Place) (Place, int) {
	best, fewest := places[0], w.leftAfter(places[0])
	for _, p := range places[1:] {
		if n := w.leftAfter(p); n < fewest {
			best, fewest = p, n
		}
	}
	return best, fewest
}

func (w work) leftAfter(p Place) int {
	heard, silent := w.split(p)
	return max(heard, silent)
}

// fewestWrong returns the first of the shortest lists of places of an hour without whose marks some set fits it.
func (w work) fewestWrong(hour int) []Place {
	best := w.placesOf(hour)
	for set := range w.allMen() + 1 {
		wrong := those(w.placesOf(hour), func(p Place) bool { return !w.agrees(p, set) })
		if comesBefore(wrong, best) {
			best = wrong
		}
	}
	return best
}

// comesBefore reports whether a list of places of an hour is shorter than another one, or as long, and lexicographically less.
func comesBefore(a, b []Place) bool {
	if len(a) != len(b) {
		return len(a) < len(b)
	}
	return slices.CompareFunc(a, b, func(p, q Place) int { return p.Man - q.Man }) < 0
}
