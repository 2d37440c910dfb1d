package text

import (
	"iter"
	"slices"

	"oyez/api"
)

// placeMarks has the marks of all places; those behind the end of a text are 0.
type placeMarks [MaxWords + 1]int

// saysOtherwise reports whether a part has all words of a turn's Core, but not its Word.
func (u Turn) saysOtherwise(part api.Span) bool {
	return part.Lo <= u.Core.Lo && u.Core.Hi <= part.Hi && !between(u.Word, part.Lo, part.Hi)
}

// turnsOtherwise returns the turns that a part says otherwise.
func (w work) turnsOtherwise(part api.Span) []int {
	var turns []int
	for i, u := range w.Turns {
		if u.saysOtherwise(part) {
			turns = append(turns, i)
		}
	}
	return turns
}

// wordsBetween returns the words between two places.
func wordsBetween(from, to int) api.Span { return api.Span{Lo: from, Hi: to - 1} }

// allows reports whether a breath may start or end at a place.
func (w work) allows(place int) bool {
	return place == 0 || place == w.end() || w.Words[place-1].Stop
}

func (w work) syllables(from, to int) int {
	total := 0
	for _, x := range w.Words[from:to] {
		total += x.Syllables
	}
	return total
}

// is reports whether something of a kind is wrong with a breath.
func (w work) is(kind Kind, from, to int) bool {
	switch kind {
	case Long:
		return w.syllables(from, to) > w.Breath
	case Cut:
		return !w.allows(from) || !w.allows(to)
	default:
		return len(w.turnsOtherwise(wordsBetween(from, to))) > 0
	}
}

func (w work) right(from, to int) bool {
	return !w.is(Long, from, to) && !w.is(Cut, from, to) && !w.is(Otherwise, from, to)
}

// rightWithin returns whether a breath is right, and has at most so many syllables.
func (w work) rightWithin(most int) func(from, to int) bool {
	return func(from, to int) bool { return w.syllables(from, to) <= most && w.right(from, to) }
}

// sure reports whether a breath is right, and starts and ends where a break leads nobody astray.
func (w work) sure(from, to int) bool {
	return w.right(from, to) && !w.parts(from) && !w.parts(to)
}

// parts reports whether a place is between the Word of a turn and the nearest word of its Core.
// Just a break there leads somebody astray, who hears all on the side of the Core.
func (w work) parts(place int) bool {
	return slices.ContainsFunc(w.Turns, func(u Turn) bool {
		return u.Word < place && place <= u.Core.Lo || u.Core.Hi < place && place <= u.Word
	})
}

// firstWrong returns the first breath of a reading that is not right, and why, or ErrNone.
func (w work) firstWrong(reading []int) (int, Kind, api.Errno) {
	breath, why, e := 0, Long, api.ErrNone
	from := 0
search:
	for i, words := range reading {
		for kind := Long; kind <= Otherwise; kind++ {
			if w.is(kind, from, from+words) {
				breath, why, e = i, kind, api.OK
				break search
			}
		}
		from += words
	}
	return breath, why, e
}

// placesOf returns the places at which the breaths of a reading start, and the one at which the last one ends.
func placesOf(reading []int) []int {
	places := []int{0}
	for i, words := range reading {
		places = append(places, places[i]+words)
	}
	return places
}

// firstAstray returns the first turn that some run says otherwise, and the first such run, or ErrNone.
func (w work) firstAstray(places []int) (int, api.Span, api.Errno) {
	for i, u := range w.Turns {
		for first := range len(places) - 1 {
			for last := first; last < len(places)-1; last++ {
				if u.saysOtherwise(wordsBetween(places[first], places[last+1])) {
					return i, api.Span{Lo: first, Hi: last}, api.OK
				}
			}
		}
	}
	return 0, api.Span{}, api.ErrNone
}

// breaths yields the places to which readings may have a breath from a place.
func (w work) breaths(from int) iter.Seq[int] {
	return func(yield func(int) bool) {
		for to := from + 1; to <= w.end(); to++ {
			if w.may(from, to) && !yield(to) {
				return
			}
		}
	}
}

// lowered returns marks that are lowered until they let no breath gain more than one.
// Breaths go to later places only, so one pass is enough.
func (w work) lowered(m placeMarks) placeMarks {
	for from := range w.end() {
		for to := range w.breaths(from) {
			m[to] = min(m[to], m[from]+1)
		}
	}
	return m
}

// hold reports whether marks do: then there is nothing to lower.
func (w work) hold(m placeMarks) bool { return m[0] == 0 && w.lowered(m) == m }

// greatestMarks returns the greatest marks that hold. The mark of a place to which there are breaths is how many of them it needs.
func (w work) greatestMarks() placeMarks {
	var m placeMarks
	for place := 1; place <= w.end(); place++ {
		m[place] = MaxMark
	}
	return w.lowered(m)
}

// reached reports whether breaths lead to a place: then it needs at most MaxWords of them, which are fewer than MaxMark.
func (w work) reached(m placeMarks, place int) bool { return m[place] < MaxMark }

// fewest returns a reading with the fewest breaths, or ErrNone. It is found from its end.
func (w work) fewest() ([]int, api.Errno) {
	m := w.greatestMarks()
	if !w.reached(m, w.end()) {
		return nil, api.ErrNone
	}
	var reading []int
	for to := w.end(); to > 0; {
		from := w.before(m, to)
		reading = append(reading, to-from)
		to = from
	}
	slices.Reverse(reading)
	return reading, api.OK
}

// before returns a place from which a breath leads to another one, which needs one breath more.
func (w work) before(m placeMarks, to int) int {
	for from := range to {
		if m[from]+1 == m[to] && w.may(from, to) {
			return from
		}
	}
	return 0
}

// readings returns how many readings there are from each place on; those without any may be missing.
func (w work) readings() map[int]int {
	many := map[int]int{w.end(): 1}
	for from := w.end() - 1; from >= 0; from-- {
		for to := range w.breaths(from) {
			many[from] += many[to]
		}
	}
	return many
}

// unbroken returns the places between two words at which no reading breaks, or ErrNone if there is no reading.
func (w work) unbroken() ([]int, api.Errno) {
	m, many := w.greatestMarks(), w.readings()
	if many[0] == 0 {
		return nil, api.ErrNone
	}
	var never []int
	for place := 1; place < w.end(); place++ {
		if !w.reached(m, place) || many[place] == 0 {
			never = append(never, place)
		}
	}
	return never, api.OK
}
