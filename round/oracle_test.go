package round_test

import (
	"math/rand"
	"reflect"
	"slices"
	"testing"

	"oyez/api"
	"oyez/round"
)

// The tests call exported functions only, and hold their results against what this file finds out by trying all rounds.

// far is later than any round ends.
const far = 1 << 20

func list(n ...int) []int { return n }

func cry(stand, notice int) round.Cry { return round.Cry{Stand: stand, Notice: notice} }

func pair(notice, house int) round.Pair { return round.Pair{Notice: notice, House: house} }

func notice(words, hour int, quarter ...int) round.Notice {
	return round.Notice{Quarter: quarter, Words: words, Hour: hour}
}

// row is the beat of the examples.
func row() round.Beat {
	return round.Beat{
		Walks:   [][]int{{0, 2, -1}, {2, 0, 2}, {-1, 2, 0}},
		Hears:   [][]int{{0}, {1}, {1, 2}},
		Houses:  3,
		Notices: []round.Notice{notice(3, 12, 0, 2), notice(1, 20, 1)},
	}
}

// rowBy is that beat with other hours.
func rowBy(hours ...int) round.Beat {
	b := row()
	for i, hour := range hours {
		b.Notices[i].Hour = hour
	}
	return b
}

// widest is a beat with as much of all as can be. Each stand is heard by one house, and by the next one.
func widest() round.Beat {
	b := round.Beat{Houses: 5, Start: 4, Notices: []round.Notice{notice(5, 200, 4, 3, 2, 1, 0), notice(5, 200, 3, 1), notice(5, 200, 0, 4)}}
	for stand := range 5 {
		ways := slices.Repeat(list(20), 5)
		ways[stand] = 0
		b.Walks = append(b.Walks, ways)
		b.Hears = append(b.Hears, list((stand+1)%5, stand))
	}
	return b
}

// clone returns a beat that shares no memory with another one.
func clone(b round.Beat) round.Beat {
	b.Walks, b.Hears, b.Notices = slices.Clone(b.Walks), slices.Clone(b.Hears), slices.Clone(b.Notices)
	for _, lists := range [][][]int{b.Walks, b.Hears} {
		for i := range lists {
			lists[i] = slices.Clone(lists[i])
		}
	}
	for i := range b.Notices {
		b.Notices[i].Quarter = slices.Clone(b.Notices[i].Quarter)
	}
	return b
}

// within returns a beat of which no hour is later than a minute.
func within(b round.Beat, minute int) round.Beat {
	b = clone(b)
	for i := range b.Notices {
		b.Notices[i].Hour = min(b.Notices[i].Hour, minute)
	}
	return b
}

// minutes returns the quickest walks, far where there is none, by trying all walks that come to no stand twice.
func minutes(b round.Beat) [][]int {
	var table [][]int
	for from := range b.Walks {
		quickest := slices.Repeat(list(far), len(b.Walks))
		var walk func(at, minute int, seen []int)
		walk = func(at, minute int, seen []int) {
			quickest[at] = min(quickest[at], minute)
			for to, n := range b.Walks[at] {
				if n != round.None && !slices.Contains(seen, to) {
					walk(to, minute+n, append(slices.Clone(seen), to))
				}
			}
		}
		walk(from, 0, list(from))
		table = append(table, quickest)
	}
	return table
}

// allPairs returns the pairs of a beat, in order.
func allPairs(b round.Beat) []round.Pair {
	var all []round.Pair
	for i, n := range b.Notices {
		for _, house := range slices.Sorted(slices.Values(n.Quarter)) {
			all = append(all, pair(i, house))
		}
	}
	return all
}

// hears reports whether the house of a pair hears a cry of its notice.
func hears(b round.Beat, c round.Cry, p round.Pair) bool {
	return c.Notice == p.Notice && slices.Contains(b.Hears[c.Stand], p.House)
}

// rounds yields all rounds of at most so many cries that end by the last hour, with the minute at which each ends, and the first minutes at which the pairs are heard.
// If each cry must be news, it is the first one by which some pair is heard: other cries only take time.
func rounds(b round.Beat, cries int, news bool, yield func(end int, heard []int)) {
	walks, pairs, last := minutes(b), allPairs(b), 0
	for _, n := range b.Notices {
		last = max(last, n.Hour)
	}
	var after func(cries, stand, end int, heard []int)
	after = func(cries, stand, end int, heard []int) {
		yield(end, heard)
		if cries == 0 {
			return
		}
		for to := range b.Walks {
			for i, n := range b.Notices {
				then := end + walks[stand][to] + n.Words
				now, is := slices.Clone(heard), !news
				for k, p := range pairs {
					if heard[k] == far && hears(b, cry(to, i), p) {
						now[k], is = then, true
					}
				}
				if is && then <= last {
					after(cries-1, to, then, now)
				}
			}
		}
	}
	after(cries, b.Start, 0, slices.Repeat(list(far), len(pairs)))
}

// served is for each set of pairs that a round serves the first minute at which such a round ends.
type served map[int]int

func serves(b round.Beat, cries int, news bool) served {
	s := served{}
	pairs := allPairs(b)
	rounds(b, cries, news, func(end int, heard []int) {
		set := 0
		for i, p := range pairs {
			if heard[i] <= b.Notices[p.Notice].Hour {
				set |= 1 << i
			}
		}
		if old, ok := s[set]; !ok || end < old {
			s[set] = end
		}
	})
	return s
}

// end returns the first minute at which a round ends that serves all of a set, or far.
func (s served) end(set int) int {
	first := far
	for all, end := range s {
		if all&set == set {
			first = min(first, end)
		}
	}
	return first
}

// setOf returns the pairs for which something is so.
func setOf(b round.Beat, is func(p round.Pair) bool) int {
	set := 0
	for i, p := range allPairs(b) {
		if is(p) {
			set |= 1 << i
		}
	}
	return set
}

// elements returns those of a set, in increasing order.
func elements(set int) []int {
	var all []int
	for n := range 16 {
		if set&(1<<n) != 0 {
			all = append(all, n)
		}
	}
	return all
}

// sets returns all sets of n things, the smaller ones first, those of a size in lexicographic order of their lists.
func sets(n int) []int {
	var all []int
	for set := range 1 << n {
		all = append(all, set)
	}
	slices.SortFunc(all, func(a, b int) int {
		if d := len(elements(a)) - len(elements(b)); d != 0 {
			return d
		}
		return slices.Compare(elements(a), elements(b))
	})
	return all
}

// pairsOf returns the pairs of a set.
func pairsOf(b round.Beat, set int) []round.Pair {
	var some []round.Pair
	for _, i := range elements(set) {
		some = append(some, allPairs(b)[i])
	}
	return some
}

// excluding returns the first of the shortest lists of pairs that are not served together.
func excluding(b round.Beat, s served) []round.Pair {
	for _, set := range sets(len(allPairs(b))) {
		if s.end(set) == far {
			return pairsOf(b, set)
		}
	}
	return nil
}

// most returns the first of the longest lists of notices that are served together.
func most(b round.Beat, s served) []int {
	var best []int
	for _, set := range sets(len(b.Notices)) {
		l := elements(set)
		of := setOf(b, func(p round.Pair) bool { return slices.Contains(l, p.Notice) })
		if s.end(of) < far && len(l) > len(best) {
			best = l
		}
	}
	return best
}

// hurry returns the least hour with which a notice, and all others, are served; far if none is early enough.
func hurry(b round.Beat, notice, cries int, news bool) int {
	b = clone(b)
	b.Notices[notice].Hour = round.MaxHour
	first := far
	pairs := allPairs(b)
	rounds(b, cries, news, func(_ int, heard []int) {
		last := 0
		for i, p := range pairs {
			if heard[i] > b.Notices[p.Notice].Hour {
				return
			}
			if p.Notice == notice {
				last = max(last, heard[i])
			}
		}
		first = min(first, last)
	})
	return first
}

// twoCriers returns the first of the lists by which two criers end soonest, and when; far if they cannot serve all.
func twoCriers(b round.Beat, s served) ([]int, int) {
	var best []int
	soonest := far
	var share func(who []int)
	share = func(who []int) {
		if len(who) < len(b.Notices) {
			share(append(slices.Clone(who), 0))
			share(append(slices.Clone(who), 1))
			return
		}
		late := 0
		for crier := range 2 {
			late = max(late, s.end(setOf(b, func(p round.Pair) bool { return who[p.Notice] == crier })))
		}
		if late < soonest {
			best, soonest = who, late
		}
	}
	share(nil)
	return best, soonest
}

// sizes is how much a beat has at most.
type sizes struct{ stands, houses, notices, pairs int }

// someBeat returns a beat with hours that make many of them just possible, or just not.
func someBeat(r *rand.Rand, most sizes) round.Beat {
	b := round.Beat{Houses: 1 + max(r.Intn(most.houses), r.Intn(most.houses))}
	n := 1 + max(r.Intn(most.stands), r.Intn(most.stands))
	b.Start = r.Intn(n)
	longest := 2 + r.Intn(8)
	for from := range n {
		ways := make([]int, n)
		for to := range n {
			ways[to] = 1 + r.Intn(longest)
			if r.Intn(4) == 0 {
				ways[to] = round.None
			}
		}
		ways[from] = 0
		b.Walks = append(b.Walks, ways)
		b.Hears = append(b.Hears, r.Perm(b.Houses)[:r.Intn(2)])
	}
	for house := range b.Houses {
		if stand := r.Intn(n); r.Intn(8) > 0 && !slices.Contains(b.Hears[stand], house) {
			b.Hears[stand] = append(b.Hears[stand], house)
		}
	}
	soonest, later := 2+r.Intn(20), 1+r.Intn(20)
	for range r.Intn(most.notices + 1) {
		room := min(b.Houses, most.pairs-len(allPairs(b)))
		if room > 0 {
			b.Notices = append(b.Notices, notice(1+r.Intn(1+r.Intn(5)), soonest+r.Intn(later), r.Perm(b.Houses)[:1+r.Intn(room)]...))
		}
	}
	return b
}

// someBeats calls a function with beats, always the same ones.
func someBeats(t *testing.T, n int, most sizes, check func(r *rand.Rand, b round.Beat)) {
	t.Helper()
	r := rand.New(rand.NewSource(13))
	for range n {
		b := someBeat(r, most)
		check(r, b)
		if t.Failed() {
			t.Fatalf("in the beat %+v", b)
		}
	}
}

// args are what a call is given; each call takes what it needs of them.
type args struct {
	b                    round.Beat
	from, to             int
	round                []round.Cry
	p                    round.Pair
	pairs                []round.Pair
	notice, hour, minute int
}

// good returns arguments with which a call is right: there is nothing to be told of pairs that exclude each other if there are none.
func good(name string) args {
	x := args{b: row(), from: 0, to: 2, round: []round.Cry{cry(0, 0), cry(2, 0), cry(2, 1)}, p: pair(0, 0), pairs: []round.Pair{pair(1, 1), pair(0, 0)}, notice: 0, hour: 9, minute: 10}
	if name == "Excludes" {
		x.b = rowBy(9)
	}
	return x
}

func (x args) clone() args {
	x.b, x.round, x.pairs = clone(x.b), slices.Clone(x.round), slices.Clone(x.pairs)
	return x
}

// call is one of the functions, with its results beside the error.
type call struct {
	name string
	do   func(args) ([]any, api.Errno)
}

func one[T any](v T, e api.Errno) ([]any, api.Errno) { return []any{v}, e }

func two[S, T any](v S, u T, e api.Errno) ([]any, api.Errno) { return []any{v, u}, e }

func calls() []call {
	return []call{
		{"Check", func(x args) ([]any, api.Errno) { return nil, round.Check(x.b) }},
		{"Walk", func(x args) ([]any, api.Errno) { return one(round.Walk(x.b, x.from, x.to)) }},
		{"Path", func(x args) ([]any, api.Errno) { return one(round.Path(x.b, x.from, x.to)) }},
		{"Ends", func(x args) ([]any, api.Errno) { return one(round.Ends(x.b, x.round)) }},
		{"Heard", func(x args) ([]any, api.Errno) { return one(round.Heard(x.b, x.round)) }},
		{"Missed", func(x args) ([]any, api.Errno) { return one(round.Missed(x.b, x.round)) }},
		{"Pairs", func(x args) ([]any, api.Errno) { return one(round.Pairs(x.b)) }},
		{"Soonest", func(x args) ([]any, api.Errno) { return one(round.Soonest(x.b, x.p)) }},
		{"Lost", func(x args) ([]any, api.Errno) { return one(round.Lost(x.b)) }},
		{"Best", func(x args) ([]any, api.Errno) { return two(round.Best(x.b)) }},
		{"Excludes", func(x args) ([]any, api.Errno) { return one(round.Excludes(x.b)) }},
		{"Together", func(x args) ([]any, api.Errno) { return one(round.Together(x.b, x.pairs)) }},
		{"Before", func(x args) ([]any, api.Errno) { return one(round.Before(x.b, x.minute)) }},
		{"Most", func(x args) ([]any, api.Errno) { return one(round.Most(x.b)) }},
		{"Hurry", func(x args) ([]any, api.Errno) { return one(round.Hurry(x.b, x.notice)) }},
		{"Put", func(x args) ([]any, api.Errno) { return one(round.Put(x.b, x.notice, x.hour)) }},
		{"Two", func(x args) ([]any, api.Errno) { return two(round.Two(x.b)) }},
	}
}

// zero reports whether all results are; a list without elements is zero, too.
func zero(results []any) bool {
	for _, r := range results {
		v := reflect.ValueOf(r)
		if v.Kind() == reflect.Slice && v.Len() == 0 {
			continue
		}
		if !v.IsZero() {
			return false
		}
	}
	return true
}
