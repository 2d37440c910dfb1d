package night_test

import (
	"math/rand"
	"reflect"
	"slices"
	"strings"
	"testing"

	"oyez/api"
	"oyez/night"
)

// The tests call exported functions only, and hold their results against what this file finds out by going through all explanations, all lists of men and all lists of places.

const (
	u = night.Unknown
	h = night.Heard
	s = night.Silent
)

func list(n ...int) []int { return n }

func marks(m ...night.Mark) []night.Mark { return m }

func at(hour, man int) night.Place { return night.Place{Hour: hour, Man: man} }

func places(p ...night.Place) []night.Place { return p }

// four is the watch of the examples.
func four() night.Watch { return fourWith(marks(u, u, s, h), marks(u, u, s, u)) }

// fourWith is that watch with other hours.
func fourWith(hours ...[]night.Mark) night.Watch {
	return night.Watch{Listens: [][]int{nil, {0}, {1}, {0, 2}}, Hours: hours}
}

// nothingKnown is a watch of which nothing is known.
func nothingKnown(men, hours int) night.Watch {
	w := night.Watch{Listens: make([][]int, men)}
	for range hours {
		w.Hours = append(w.Hours, make([]night.Mark, men))
	}
	return w
}

// clone returns a watch that shares no memory with another one.
func clone(w night.Watch) night.Watch {
	w.Listens, w.Hours = slices.Clone(w.Listens), slices.Clone(w.Hours)
	for i := range w.Listens {
		w.Listens[i] = slices.Clone(w.Listens[i])
	}
	for i := range w.Hours {
		w.Hours[i] = slices.Clone(w.Hours[i])
	}
	return w
}

// marked returns a watch with another mark at some places.
func marked(w night.Watch, m night.Mark, at ...night.Place) night.Watch {
	w = clone(w)
	for _, p := range at {
		w.Hours[p.Hour][p.Man] = m
	}
	return w
}

func sets(w night.Watch) int { return 1 << len(w.Listens) }

func in(set, man int) bool { return set>>man&1 == 1 }

// cries reports whether a man cries if a set sleeps: he is awake, and so is somebody to whom he listens, and so on, down to one who listens to nobody.
func cries(w night.Watch, asleep, man int) bool {
	if in(asleep, man) {
		return false
	}
	for _, other := range w.Listens[man] {
		if cries(w, asleep, other) {
			return true
		}
	}
	return len(w.Listens[man]) == 0
}

// cried returns the set of all who do.
func cried(w night.Watch, asleep int) int {
	set := 0
	for man := range w.Listens {
		if cries(w, asleep, man) {
			set |= 1 << man
		}
	}
	return set
}

func fits(w night.Watch, hour, asleep int) bool {
	for man, m := range w.Hours[hour] {
		if m == h && !cries(w, asleep, man) || m == s && cries(w, asleep, man) {
			return false
		}
	}
	return true
}

// fitting returns the sets that fit an hour.
func fitting(w night.Watch, hour int) []int {
	var all []int
	for set := range sets(w) {
		if fits(w, hour, set) {
			all = append(all, set)
		}
	}
	return all
}

// many returns how many explanations there are.
func many(w night.Watch) int {
	n := 1
	for hour := range w.Hours {
		n *= len(fitting(w, hour))
	}
	return n
}

// explanations returns all of them, in lexicographic order.
func explanations(w night.Watch) [][]int {
	if many(w) == 0 {
		return nil
	}
	all := [][]int{nil}
	for hour := range w.Hours {
		var longer [][]int
		for _, nights := range all {
			for _, set := range fitting(w, hour) {
				longer = append(longer, append(slices.Clone(nights), set))
			}
		}
		all = longer
	}
	return all
}

// napsOf returns how many naps a man has: the words that are left if the hours in which he was awake are blanks between them.
func napsOf(nights []int, man int) int {
	var told strings.Builder
	for _, set := range nights {
		if in(set, man) {
			told.WriteByte('z')
		} else {
			told.WriteByte(' ')
		}
	}
	return len(strings.Fields(told.String()))
}

func naps(w night.Watch, nights []int) int {
	n := 0
	for man := range w.Listens {
		n += napsOf(nights, man)
	}
	return n
}

// shortest returns all explanations with the fewest naps, and how many these are.
func shortest(w night.Watch) ([][]int, int) {
	var best [][]int
	fewest := night.MaxNaps
	for _, nights := range explanations(w) {
		n := naps(w, nights)
		if n < fewest {
			best, fewest = nil, n
		}
		if n == fewest {
			best = append(best, nights)
		}
	}
	return best, fewest
}

// slept returns the set of those who slept at some hour.
func slept(nights []int) int {
	set := 0
	for _, n := range nights {
		set |= n
	}
	return set
}

// elements returns those of a set, in increasing order.
func elements(set int) []int {
	var all []int
	for n := 0; set>>n > 0; n++ {
		if in(set, n) {
			all = append(all, n)
		}
	}
	return all
}

// bySize returns all sets of n things, the smaller ones first, those of a size in lexicographic order of their lists.
func bySize(n int) []int {
	var all []int
	for set := range 1 << n {
		all = append(all, set)
	}
	slices.SortFunc(all, func(a, b int) int {
		x, y := elements(a), elements(b)
		if len(x) != len(y) {
			return len(x) - len(y)
		}
		return slices.Compare(x, y)
	})
	return all
}

// allPlaces returns the places of a watch, in order.
func allPlaces(w night.Watch) []night.Place {
	var all []night.Place
	for hour := range w.Hours {
		for man := range w.Listens {
			all = append(all, at(hour, man))
		}
	}
	return all
}

// bounds returns what each number of an hour of a table must not exceed, far above all if nothing bounds it.
func bounds(w night.Watch, table [][]int, hour int) []int {
	all := slices.Repeat(list(1000), sets(w))
	for _, set := range fitting(w, hour) {
		if hour == 0 {
			all[set] = len(elements(set))
			continue
		}
		for _, old := range fitting(w, hour-1) {
			all[set] = min(all[set], table[hour-1][old]+len(elements(set&^old)))
		}
	}
	return all
}

// shows returns what a table shows whose numbers are right, or ErrFalse.
func shows(w night.Watch, table [][]int) (int, api.Errno) {
	last := len(w.Hours) - 1
	for hour, row := range table {
		for set, most := range bounds(w, table, hour) {
			if row[set] > most {
				return 0, api.ErrFalse
			}
		}
	}
	shown := night.MaxNaps
	for _, set := range fitting(w, last) {
		shown = min(shown, table[last][set])
	}
	return shown, api.OK
}

// sizes is how many men and hours watches have at most, and how many explanations.
type sizes struct{ men, hours, explanations int }

var (
	small   = sizes{4, 3, 4096}
	largest = sizes{night.MaxMen, night.MaxHours, 3000}
	anyMany = sizes{night.MaxMen, night.MaxHours, 1 << 62}
)

// up returns a number from 1 to n, a greater one more often.
func up(r *rand.Rand, n int) int { return 1 + max(r.Intn(n), r.Intn(n)) }

// someListens returns men who listen to some of those before them, in any order.
func someListens(r *rand.Rand, men int) [][]int {
	var all [][]int
	for man := range men {
		all = append(all, r.Perm(man)[:min(man, r.Intn(4))])
	}
	return all
}

// someWatch returns a watch with marks of a night that was, and that has not too many explanations; a few marks are false.
func someWatch(r *rand.Rand, most sizes) night.Watch {
	for {
		w := night.Watch{Listens: someListens(r, up(r, most.men))}
		known, wrong := 1+r.Intn(8), r.Intn(3)*r.Intn(3)
		asleep := r.Intn(sets(w)) & r.Intn(sets(w))
		for range up(r, most.hours) {
			if r.Intn(3) > 0 {
				asleep ^= 1 << r.Intn(len(w.Listens))
			}
			w.Hours = append(w.Hours, someMarks(r, w, asleep, known, wrong))
		}
		if many(w) <= most.explanations {
			return w
		}
	}
}

// someMarks returns marks of an hour in which a set sleeps, so many of 8, and a few false ones of 30.
func someMarks(r *rand.Rand, w night.Watch, asleep, known, wrong int) []night.Mark {
	now := make([]night.Mark, len(w.Listens))
	for man := range now {
		if r.Intn(8) < known {
			now[man] = markOf(w, asleep, man)
		}
		if r.Intn(30) < wrong {
			now[man] = night.Mark(r.Intn(3))
		}
	}
	return now
}

// markOf returns what is known of a man if a set sleeps and all is known.
func markOf(w night.Watch, asleep, man int) night.Mark {
	if cries(w, asleep, man) {
		return h
	}
	return s
}

// someWatches calls a function with watches, always the same ones.
func someWatches(t *testing.T, n int, most sizes, check func(r *rand.Rand, w night.Watch)) {
	t.Helper()
	r := rand.New(rand.NewSource(5))
	for range n {
		w := someWatch(r, most)
		check(r, w)
		if t.Failed() {
			t.Fatalf("in the watch %+v", w)
		}
	}
}

// explainedWatches is someWatches for those that have an explanation.
func explainedWatches(t *testing.T, n int, most sizes, check func(r *rand.Rand, w night.Watch)) {
	t.Helper()
	explained := 0
	someWatches(t, n, most, func(r *rand.Rand, w night.Watch) {
		if many(w) > 0 {
			explained++
			check(r, w)
		}
	})
	if explained < n/2 {
		t.Error("too few watches with an explanation:", explained)
	}
}

// args are what a call is given; each call takes what it needs of them.
type args struct {
	w                 night.Watch
	asleep, hour, man int
	p                 night.Place
	m                 night.Mark
	nights            []int
	table             [][]int
}

// good returns arguments with which each call is right.
func good() args {
	table := [][]int{slices.Repeat(list(0), 16), slices.Repeat(list(1), 16)}
	table[0][2], table[0][4], table[0][6] = 1, 1, 2
	return args{four(), 2, 1, 3, at(0, 1), h, list(6, 15), table}
}

func (x args) clone() args {
	x.w, x.nights, x.table = clone(x.w), slices.Clone(x.nights), slices.Clone(x.table)
	for i := range x.table {
		x.table[i] = slices.Clone(x.table[i])
	}
	return x
}

// call is one of the functions, with its results beside the error.
type call struct {
	name string
	do   func(args) ([]any, api.Errno)
}

func one[T any](v T, e api.Errno) ([]any, api.Errno) { return []any{v}, e }

func two[S, T any](v S, x T, e api.Errno) ([]any, api.Errno) { return []any{v, x}, e }

func calls() []call {
	return []call{
		{"Check", func(x args) ([]any, api.Errno) { return nil, night.Check(x.w) }},
		{"Cries", func(x args) ([]any, api.Errno) { return one(night.Cries(x.w, x.asleep)) }},
		{"Fits", func(x args) ([]any, api.Errno) { return one(night.Fits(x.w, x.hour, x.asleep)) }},
		{"With", func(x args) ([]any, api.Errno) { return one(night.With(x.w, x.p, x.m)) }},
		{"Naps", func(x args) ([]any, api.Errno) { return one(night.Naps(x.w, x.nights)) }},
		{"Fewest", func(x args) ([]any, api.Errno) { return two(night.Fewest(x.w)) }},
		{"Table", func(x args) ([]any, api.Errno) { return one(night.Table(x.w)) }},
		{"Shows", func(x args) ([]any, api.Errno) { return one(night.Shows(x.w, x.table)) }},
		{"Count", func(x args) ([]any, api.Errno) { return one(night.Count(x.w)) }},
		{"Ways", func(x args) ([]any, api.Errno) { return one(night.Ways(x.w)) }},
		{"Verdicts", func(x args) ([]any, api.Errno) { return one(night.Verdicts(x.w)) }},
		{"Sure", func(x args) ([]any, api.Errno) { return one(night.Sure(x.w)) }},
		{"Men", func(x args) ([]any, api.Errno) { return one(night.Men(x.w)) }},
		{"Most", func(x args) ([]any, api.Errno) { return one(night.Most(x.w, x.man)) }},
		{"Split", func(x args) ([]any, api.Errno) { return two(night.Split(x.w, x.p)) }},
		{"Ask", func(x args) ([]any, api.Errno) { return two(night.Ask(x.w)) }},
		{"Wrong", func(x args) ([]any, api.Errno) { return one(night.Wrong(x.w)) }},
	}
}

// zero reports whether all results are; a list without elements is zero, too.
func zero(results []any) bool {
	for _, r := range results {
		v := reflect.ValueOf(r)
		if !v.IsZero() && !(v.Kind() == reflect.Slice && v.Len() == 0) {
			return false
		}
	}
	return true
}
