package echo_test

import (
	"math/rand"
	"reflect"
	"slices"
	"testing"

	"oyez/api"
	"oyez/echo"
)

// The tests call exported functions only, and hold their results against what this file finds out by giving each word that
// was heard to each side, and by going through all parts of texts.

func list(n ...int) []int { return n }

func lists(l ...[]int) [][]int { return l }

func pair(a, b int) echo.Pair { return echo.Pair{A: a, B: b} }

func pairs(p ...echo.Pair) []echo.Pair { return p }

func sides(s ...echo.Side) []echo.Side { return s }

func places(p ...echo.Place) []echo.Place { return p }

func ofA(at int) echo.Place { return echo.Place{Side: echo.OfA, At: at} }

func ofB(at int) echo.Place { return echo.Place{Side: echo.OfB, At: at} }

func noise() echo.Place { return echo.Place{Side: echo.Noise} }

// crossed is the echo of the examples, of which so many words were heard.
func crossed(heard, faults int) echo.Echo {
	return echo.Echo{Texts: lists(list(1, 2, 3), list(4, 2)), Heard: list(1, 4, 2, 2, 3)[:heard], Faults: faults}
}

// texts returns an echo of which nothing was heard.
func texts(faults int, l ...[]int) echo.Echo { return echo.Echo{Texts: l, Faults: faults} }

// largest is the echo with the most readings.
func largest() echo.Echo {
	six := func() []int { return slices.Repeat(list(5), echo.MaxWords) }
	return echo.Echo{
		Texts:  lists(six(), six(), six(), six(), six()),
		Heard:  slices.Repeat(list(5), echo.MaxHeard),
		Faults: echo.MaxFaults,
	}
}

func numbers(many int) []int {
	var l []int
	for n := range many {
		l = append(l, n)
	}
	return l
}

func copied(l [][]int) [][]int {
	l = slices.Clone(l)
	for i := range l {
		l[i] = slices.Clone(l[i])
	}
	return l
}

func copiedMarks(m [][][]int) [][][]int {
	m = slices.Clone(m)
	for i := range m {
		m[i] = copied(m[i])
	}
	return m
}

func clone(e echo.Echo) echo.Echo {
	e.Texts, e.Heard = copied(e.Texts), slices.Clone(e.Heard)
	return e
}

// told returns words as a string, which can be a key.
func told(words []int) string {
	var said []byte
	for _, word := range words {
		said = append(said, byte(word))
	}
	return string(said)
}

// parts returns all that is left of a text if words are left out, and in how many ways it is.
func parts(text []int) map[string]int {
	ways := map[string]int{}
	for set := range 1 << len(text) {
		var left []int
		for at, word := range text {
			if set>>at&1 == 1 {
				left = append(left, word)
			}
		}
		ways[told(left)]++
	}
	return ways
}

// best is what the best readings are.
type best struct {
	least, count int
	sure         []echo.Side
}

// bestOf gives each word that was heard to each side. It goes on only while the words of both sides are parts of the texts.
func bestOf(e echo.Echo, p echo.Pair) best {
	a, b := e.Texts[p.A], e.Texts[p.B]
	waysA, waysB := parts(a), parts(b)
	found := best{least: 99}
	var seen [echo.MaxHeard][echo.Noise + 1]bool
	given := make([]echo.Side, len(e.Heard))
	tell := func(faults, many int) {
		if faults < found.least {
			found = best{least: faults}
			clear(seen[:])
		}
		if faults == found.least {
			found.count += many
			for i, side := range given {
				seen[i][side] = true
			}
		}
	}
	var give func(at, noise int, saidA, saidB string)
	give = func(at, noise int, saidA, saidB string) {
		many := waysA[saidA] * waysB[saidB]
		if many == 0 {
			return
		}
		if at == len(e.Heard) {
			lost := len(a) - len(saidA) + len(b) - len(saidB)
			tell(noise+lost, many)
			return
		}
		word := told(e.Heard[at : at+1])
		given[at] = echo.OfA
		give(at+1, noise, saidA+word, saidB)
		given[at] = echo.OfB
		give(at+1, noise, saidA, saidB+word)
		given[at] = echo.Noise
		give(at+1, noise+1, saidA, saidB)
	}
	give(0, 0, "", "")
	for i := range e.Heard {
		found.sure = append(found.sure, echo.Open)
		for side := echo.OfA; side <= echo.Noise; side++ {
			var alone [echo.Noise + 1]bool
			alone[side] = true
			if seen[i] == alone {
				found.sure[i] = side
			}
		}
	}
	return found
}

// textOf returns the text of a side.
func textOf(e echo.Echo, p echo.Pair, side echo.Side) []int {
	switch side {
	case echo.OfA:
		return e.Texts[p.A]
	case echo.OfB:
		return e.Texts[p.B]
	}
	return nil
}

func isReading(e echo.Echo, p echo.Pair, reading []echo.Place) bool {
	for i, x := range reading {
		if x == noise() {
			continue
		}
		text := textOf(e, p, x.Side)
		if x.At < 0 || x.At >= len(text) || text[x.At] != e.Heard[i] {
			return false
		}
		for _, y := range reading[:i] {
			if y.Side == x.Side && y.At >= x.At {
				return false
			}
		}
	}
	return len(reading) == len(e.Heard)
}

// faultsOf returns the faults of a reading, word by word.
func faultsOf(e echo.Echo, p echo.Pair, reading []echo.Place) int {
	faults := 0
	for _, x := range reading {
		if x.Side == echo.Noise {
			faults++
		}
	}
	for _, side := range sides(echo.OfA, echo.OfB) {
		for at := range textOf(e, p, side) {
			if !slices.Contains(reading, echo.Place{Side: side, At: at}) {
				faults++
			}
		}
	}
	return faults
}

// errorOfMarks returns that of marks, by all that they must be.
func errorOfMarks(e echo.Echo, p echo.Pair, m [][][]int) api.Errno {
	a, b := e.Texts[p.A], e.Texts[p.B]
	if len(m) != len(e.Heard)+1 {
		return api.ErrCount
	}
	allowed := true
	for _, plane := range m {
		if len(plane) != len(a)+1 {
			return api.ErrCount
		}
		for _, row := range plane {
			if len(row) != len(b)+1 {
				return api.ErrCount
			}
			for _, n := range row {
				allowed = allowed && 0 <= n && n <= 99
			}
		}
	}
	if !allowed {
		return api.ErrRange
	}
	if m[0][0][0] != 0 {
		return api.ErrFalse
	}
	for i := range m {
		for x := range m[i] {
			for y, n := range m[i][x] {
				if i > 0 && n > m[i-1][x][y]+1 || x > 0 && n > m[i][x-1][y]+1 || y > 0 && n > m[i][x][y-1]+1 {
					return api.ErrFalse
				}
				if i < len(e.Heard) && x < len(a) && e.Heard[i] == a[x] && m[i+1][x+1][y] > n {
					return api.ErrFalse
				}
				if i < len(e.Heard) && y < len(b) && e.Heard[i] == b[y] && m[i+1][x][y+1] > n {
					return api.ErrFalse
				}
			}
		}
	}
	return api.OK
}

func lastOf(m [][][]int) int {
	plane := m[len(m)-1]
	row := plane[len(plane)-1]
	return row[len(row)-1]
}

// allPairs returns all pairs whose A is at most their B, in their order.
func allPairs(e echo.Echo) []echo.Pair {
	var all []echo.Pair
	for a := range e.Texts {
		for b := range e.Texts {
			if a <= b {
				all = append(all, pair(a, b))
			}
		}
	}
	return all
}

// related is what is found of the texts of an echo.
type related struct {
	pairs   []echo.Pair
	with    [][]int
	musts   []int
	closest echo.Pair
	least   int
}

func relatedOf(e echo.Echo) related {
	found := related{with: make([][]int, len(e.Texts)), least: 99}
	can := map[echo.Pair]bool{}
	for _, p := range allPairs(e) {
		least := bestOf(e, p).least
		if least < found.least {
			found.closest, found.least = p, least
		}
		if least <= e.Faults {
			found.pairs = append(found.pairs, p)
			can[p], can[pair(p.B, p.A)] = true, true
		}
	}
	for text := range e.Texts {
		must := len(found.pairs) > 0
		for _, p := range found.pairs {
			must = must && (p.A == text || p.B == text)
		}
		if must {
			found.musts = append(found.musts, text)
		}
		for other := range e.Texts {
			if can[pair(text, other)] {
				found.with[text] = append(found.with[text], other)
			}
		}
	}
	return found
}

// commonOf returns how many common words two lists of words have at most.
func commonOf(a, b []int) int {
	most := 0
	other := parts(b)
	for part := range parts(a) {
		if other[part] > 0 {
			most = max(most, len(part))
		}
	}
	return most
}

func distanceOf(a, b []int) int { return len(a) + len(b) - 2*commonOf(a, b) }

// changes returns all lists that a list becomes if one of some words is put in, or one of its words is left out.
func changes(l, words []int) [][]int {
	var all [][]int
	for at := range len(l) + 1 {
		for _, word := range words {
			all = append(all, slices.Insert(slices.Clone(l), at, word))
		}
		if at < len(l) {
			all = append(all, slices.Delete(slices.Clone(l), at, at+1))
		}
	}
	return all
}

// near returns all lists to which a list becomes with at most so many changes, and with how many of them.
func near(l, words []int, far int) map[string]int {
	found := map[string]int{told(l): 0}
	last := lists(l)
	for n := range far {
		var next [][]int
		for _, before := range last {
			for _, after := range changes(before, words) {
				if _, is := found[told(after)]; !is {
					found[told(after)] = n + 1
					next = append(next, after)
				}
			}
		}
		last = next
	}
	return found
}

// up returns a number from 0 to n, a greater one more often.
func up(r *rand.Rand, n int) int { return max(r.Intn(n+1), r.Intn(n+1)) }

// someWords returns so many, of different ones.
func someWords(r *rand.Rand, many, different int) []int {
	var words []int
	for range many {
		words = append(words, r.Intn(different))
	}
	return words
}

// mixed returns the words of two texts, each in its order.
func mixed(r *rand.Rand, a, b []int) []int {
	var words []int
	for len(a)+len(b) > 0 {
		if r.Intn(len(a)+len(b)) < len(a) {
			words, a = append(words, a[0]), a[1:]
		} else {
			words, b = append(words, b[0]), b[1:]
		}
	}
	return words
}

// damaged returns words with some changes, and at most so many.
func damaged(r *rand.Rand, words []int, different, changes, most int) []int {
	for range changes {
		at := r.Intn(len(words) + 1)
		if at < len(words) && r.Intn(2) == 0 {
			words = slices.Delete(slices.Clone(words), at, at+1)
		} else {
			words = slices.Insert(slices.Clone(words), at, r.Intn(different))
		}
	}
	for len(words) > most {
		at := r.Intn(len(words))
		words = slices.Delete(slices.Clone(words), at, at+1)
	}
	return words
}

// someEcho returns one of which at most so many words were heard, mostly those of two texts. Some texts are like others.
func someEcho(r *rand.Rand, heard int) echo.Echo {
	different := 1 + r.Intn(echo.MaxWord+1)
	e := echo.Echo{Faults: r.Intn(echo.MaxFaults + 1)}
	for i := range 1 + up(r, echo.MaxTexts-1) {
		text := someWords(r, 1+up(r, echo.MaxWords-1), different)
		if i > 0 && r.Intn(3) == 0 {
			text = damaged(r, e.Texts[r.Intn(i)], different, r.Intn(3), echo.MaxWords)
		}
		if len(text) == 0 {
			text = someWords(r, 1, different)
		}
		e.Texts = append(e.Texts, slices.Clone(text))
	}
	if r.Intn(4) == 0 {
		e.Heard = someWords(r, r.Intn(heard+1), different)
		return e
	}
	p := somePair(r, e)
	e.Heard = damaged(r, mixed(r, e.Texts[p.A], e.Texts[p.B]), different, r.Intn(4), heard)
	return e
}

func somePair(r *rand.Rand, e echo.Echo) echo.Pair {
	return pair(r.Intn(len(e.Texts)), r.Intn(len(e.Texts)))
}

// someEchoes calls a function with echoes of which at most so many words were heard, always the same ones.
func someEchoes(t *testing.T, n, heard int, check func(r *rand.Rand, e echo.Echo)) {
	t.Helper()
	r := rand.New(rand.NewSource(10))
	for range n {
		e := someEcho(r, heard)
		check(r, e)
		if t.Failed() {
			t.Fatalf("at the echo %+v", e)
		}
	}
}

// args are what a call is given; each call takes what it needs of them.
type args struct {
	e       echo.Echo
	p       echo.Pair
	text    int
	reading []echo.Place
	marks   [][][]int
}

// good returns arguments with which each call is right, and has a result that is not zero.
func good() args {
	e := crossed(3, 2)
	return args{e, pair(0, 1), 0, places(ofA(0), ofB(0), ofB(1)), goodMarks()}
}

// goodMarks returns the least faults of the words 1, 4 and 2, and of the texts of the examples.
func goodMarks() [][][]int {
	return [][][]int{
		lists(list(0, 1, 2), list(1, 2, 3), list(2, 3, 4), list(3, 4, 5)),
		lists(list(1, 2, 3), list(0, 1, 2), list(1, 2, 3), list(2, 3, 4)),
		lists(list(2, 1, 2), list(1, 0, 1), list(2, 1, 2), list(3, 2, 3)),
		lists(list(3, 2, 1), list(2, 1, 0), list(1, 0, 1), list(2, 1, 2)),
	}
}

func (x args) clone() args {
	x.e, x.reading, x.marks = clone(x.e), slices.Clone(x.reading), copiedMarks(x.marks)
	return x
}

// call is one of the functions, with its results beside the error.
type call struct {
	name string
	do   func(args) ([]any, api.Errno)
}

func one[T any](v T, e api.Errno) ([]any, api.Errno) { return []any{v}, e }

func two[S, T any](v S, x T, e api.Errno) ([]any, api.Errno) { return []any{v, x}, e }

func calls() []call {
	return []call{
		{"Check", func(x args) ([]any, api.Errno) { return nil, echo.Check(x.e) }},
		{"Least", func(x args) ([]any, api.Errno) { return one(echo.Least(x.e, x.p)) }},
		{"Reading", func(x args) ([]any, api.Errno) { return one(echo.Reading(x.e, x.p)) }},
		{"Faults", func(x args) ([]any, api.Errno) { return one(echo.Faults(x.e, x.p, x.reading)) }},
		{"Count", func(x args) ([]any, api.Errno) { return one(echo.Count(x.e, x.p)) }},
		{"Sure", func(x args) ([]any, api.Errno) { return one(echo.Sure(x.e, x.p)) }},
		{"Marks", func(x args) ([]any, api.Errno) { return one(echo.Marks(x.e, x.p)) }},
		{"Shows", func(x args) ([]any, api.Errno) { return one(echo.Shows(x.e, x.p, x.marks)) }},
		{"Pairs", func(x args) ([]any, api.Errno) { return one(echo.Pairs(x.e)) }},
		{"With", func(x args) ([]any, api.Errno) { return one(echo.With(x.e, x.text)) }},
		{"Musts", func(x args) ([]any, api.Errno) { return one(echo.Musts(x.e)) }},
		{"Closest", func(x args) ([]any, api.Errno) { return two(echo.Closest(x.e)) }},
		{"Distance", func(x args) ([]any, api.Errno) { return one(echo.Distance(x.e, x.p.A, x.p.B)) }},
		{"Common", func(x args) ([]any, api.Errno) { return one(echo.Common(x.e, x.p.A, x.p.B)) }},
		{"Middle", func(x args) ([]any, api.Errno) { return one(echo.Middle(x.e, x.p.A, x.p.B)) }},
		{"Confused", func(x args) ([]any, api.Errno) { return one(echo.Confused(x.e)) }},
	}
}

// zero reports whether all results are; a list without elements is zero, too.
func zero(results []any) bool {
	for _, r := range results {
		v := reflect.ValueOf(r)
		if !v.IsZero() && !(v.Kind() == reflect.Slice && v.Len() == 0) {
			return false
		}
	}
	return true
}
