package night

import (
	"iter"
	"math/bits"
	"slices"

	"oyez/api"
)

// maxSets is how many sets of men there are at most.
const maxSets = 1 << MaxMen

// far is more naps than any explanation has. A set that does not fit has so many, as a table may.
const far = MaxNaps

// naps is for each set the fewest naps up to an hour in which the set sleeps.
type naps [maxSets]int

// nobody returns naps with which no set can be.
func nobody() naps {
	var n naps
	for set := range n {
		n[set] = far
	}
	return n
}

// dusk returns the naps before the first hour, when all are awake.
func dusk() naps {
	n := nobody()
	n[0] = 0
	return n
}

// begun returns how many naps begin if a set sleeps behind another one.
func begun(before, set int) int { return size(set &^ before) }

func size(set int) int { return bits.OnesCount(uint(set)) }

func least(first int, others ...int) int {
	for _, n := range others {
		if n < first {
			first = n
		}
	}
	return first
}

// next returns the naps of an hour behind those of the hour before.
func (w work) next(before naps, hour int) naps {
	now := nobody()
	for set := range w.sets(hour) {
		for old, n := range before {
			now[set] = least(now[set], n+begun(old, set))
		}
	}
	return now
}

// napsOfHours returns the naps of all hours. Where two hours in a row are alike no naps are added,
// as who sleeps in the second one can as well have slept in the first one.
func (w work) napsOfHours() []naps {
	var rows []naps
	now, last := dusk(), dusk()
	for hour := range len(w.Hours) {
		alone := w.next(dusk(), hour)
		if alone != last {
			now = w.next(now, hour)
		}
		rows = append(rows, now)
		last = alone
	}
	return rows
}

// backwards returns a watch at work whose last hour comes first. Its explanations have as many naps.
func (w work) backwards() work {
	other := Watch{w.Listens, slices.Clone(w.Hours)}
	slices.Reverse(other.Hours)
	return atWork(other, w.cried)
}

// fewest returns the first explanation with the fewest naps, and how many these are.
// Told backwards, the naps of an hour are those from then on; of these, not the naps of men who slept already are new.
func (w work) fewest() ([]int, int) {
	rest := w.backwards().napsOfHours()
	slices.Reverse(rest)
	var nights []int
	before := 0
	for hour, row := range rest {
		best, fewest := 0, far
		for set := range w.sets(hour) {
			if n := row[set] - size(set&before); n < fewest {
				best, fewest = set, n
			}
		}
		nights = append(nights, best)
		before = best
	}
	return nights, least(far, rest[0][:]...)
}

// holds reports whether a table holds that has a number for each set in each hour.
func (w work) holds(table [][]int) bool {
	before := dusk()
	for hour, row := range table {
		most := w.next(before, hour)
		before = nobody()
		for set := range w.sets(hour) {
			if row[set] > most[set] {
				return false
			}
			before[set] = row[set]
		}
	}
	return true
}

// shown returns the least number of the sets that fit the last hour.
func (w work) shown(table [][]int) int {
	last := len(table) - 1
	shown := far
	for set := range w.sets(last) {
		shown = least(shown, table[last][set])
	}
	return shown
}

// shortest is all explanations with the fewest naps, by the naps of all hours.
type shortest struct {
	work
	rows []naps
}

func (w work) shortest() shortest { return shortest{w, w.napsOfHours()} }

// steps yields the sets of an hour, each with those before it from which it has no more naps than it must.
func (s shortest) steps(hour int) iter.Seq2[int, int] {
	before := dusk()
	if hour > 0 {
		before = s.rows[hour-1]
	}
	return func(yield func(old, set int) bool) {
		for set := range s.sets(hour) {
			for old, n := range before {
				if n+begun(old, set) == s.rows[hour][set] && !yield(old, set) {
					return
				}
			}
		}
	}
}

// ends yields the sets of the last hour with which there are the fewest naps.
func (s shortest) ends() iter.Seq[int] {
	row := s.rows[len(s.rows)-1]
	fewest := least(far, row[:]...)
	return func(yield func(int) bool) {
		for set, n := range row {
			if n == fewest && !yield(set) {
				return
			}
		}
	}
}

// ways returns how many explanations with the fewest naps there are.
func (s shortest) ways() int {
	now := [maxSets]int{1}
	for hour := range s.rows {
		var then [maxSets]int
		for old, set := range s.steps(hour) {
			then[set] += now[old]
		}
		now = then
	}
	ways := 0
	for set := range s.ends() {
		ways += now[set]
	}
	return ways
}

// napsOf returns how many naps a man has at least, and at most, if there are the fewest naps.
func (s shortest) napsOf(man int) api.Span {
	var now [maxSets]api.Span
	for hour := range s.rows {
		then := noSpans()
		for old, set := range s.steps(hour) {
			n := begun(old, set&(1<<man))
			then[set] = around(then[set], api.Span{Lo: now[old].Lo + n, Hi: now[old].Hi + n})
		}
		now = then
	}
	span := noSpan()
	for set := range s.ends() {
		span = around(span, now[set])
	}
	return span
}

// noSpan returns a span that adds nothing to another one.
func noSpan() api.Span { return api.Span{Lo: far, Hi: -1} }

func noSpans() [maxSets]api.Span {
	var spans [maxSets]api.Span
	for set := range spans {
		spans[set] = noSpan()
	}
	return spans
}

// around returns the least span that has both.
func around(a, b api.Span) api.Span { return api.Span{Lo: min(a.Lo, b.Lo), Hi: max(a.Hi, b.Hi)} }
