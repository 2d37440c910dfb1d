package file_test

import (
	"fmt"
	"math/rand"
	"reflect"
	"regexp"
	"slices"
	"strings"
	"testing"

	"oyez/api"
	"oyez/file"
)

// The tests call exported functions only, and hold their results against what this file finds out place by place, and by
// trying all bytes at all places of a text.

func rec(kind file.Kind, number int, words string) file.Record {
	return file.Record{Kind: kind, Number: number, Words: strings.Fields(words)}
}

func at(kind file.Kind, number int) file.Place { return file.Place{Kind: kind, Number: number} }

func records(r ...file.Record) []file.Record { return r }

func changes(c ...file.Change) []file.Change { return c }

func places(p ...file.Place) []file.Place { return p }

func from(kind file.Kind, number int, before, after string) file.Change {
	return file.Change{Kind: kind, Number: number, Had: true, Has: true, Old: strings.Fields(before), New: strings.Fields(after)}
}

func drop(kind file.Kind, number int, words string) file.Change {
	return file.Change{Kind: kind, Number: number, Had: true, Old: strings.Fields(words)}
}

func add(kind file.Kind, number int, words string) file.Change {
	return file.Change{Kind: kind, Number: number, Has: true, New: strings.Fields(words)}
}

// tide, storm and plea are the files of the examples: that with the notice 3 (tide), that with the notice 3 (storm) and the
// plea 0, and that with the notice 3 (tide) and the plea 0.
func tide() []file.Record  { return records(rec(file.Notice, 3, "tide")) }
func storm() []file.Record { return records(rec(file.Notice, 3, "storm"), rec(file.Plea, 0, "")) }
func plea() []file.Record  { return append(tide(), rec(file.Plea, 0, "")) }

// many returns so many records with even numbers.
func many(n int) []file.Record {
	var f []file.Record
	for i := range n {
		f = append(f, rec(file.Find, 2*i, "x"))
	}
	return f
}

// adding returns so many changes that each add a record, beginning with a number, at each second one.
func adding(n, first int) []file.Change {
	var l []file.Change
	for i := range n {
		l = append(l, add(file.Find, first+2*i, "y"))
	}
	return l
}

// words returns some, of so many bytes each.
func words(bytes ...int) []string {
	var l []string
	for _, n := range bytes {
		l = append(l, strings.Repeat("a", n))
	}
	return l
}

// what says what a file has at a place: its words, each ahead of a blank, or a dash if there is no record.
func what(f []file.Record, p file.Place) string {
	for _, r := range f {
		if r.Kind == p.Kind && r.Number == p.Number {
			return said(true, r.Words)
		}
	}
	return "-"
}

func said(has bool, words []string) string {
	if !has {
		return "-"
	}
	return strings.Join(append(slices.Clone(words), ""), " ")
}

// told says what a file is, so that two files are the same just if it says the same.
func told(f []file.Record) string {
	var all strings.Builder
	for _, r := range f {
		fmt.Fprintf(&all, "%d/%d %q\n", r.Kind, r.Number, r.Words)
	}
	return all.String()
}

func toldChanges(l []file.Change) string {
	var all strings.Builder
	for _, c := range l {
		fmt.Fprintf(&all, "%d/%d %t %q %t %q\n", c.Kind, c.Number, c.Had, c.Old, c.Has, c.New)
	}
	return all.String()
}

// placesOf returns all places of files, in order.
func placesOf(files ...[]file.Record) []file.Place {
	var all []file.Place
	for _, r := range slices.Concat(files...) {
		all = append(all, at(r.Kind, r.Number))
	}
	slices.SortFunc(all, func(p, q file.Place) int { return int(p.Kind-q.Kind)*1000 + p.Number - q.Number })
	return slices.Compact(all)
}

// having returns the file that has something at each place.
func having(places []file.Place, what func(file.Place) string) []file.Record {
	var f []file.Record
	for _, p := range places {
		if w := what(p); w != "-" {
			f = append(f, rec(p.Kind, p.Number, w))
		}
	}
	return f
}

// names and patterns of what the chapter says of lines.
var (
	names     = []string{"stand", "notice", "find", "fee", "plea"}
	rightWord = regexp.MustCompile(`\A[a-z0-9]{1,12}\z`)
	rightNum  = regexp.MustCompile(`\A(0|[1-9][0-9]{0,2})\z`)
	rightSeal = regexp.MustCompile(`\Aseal (0|[1-9][0-9]{0,4}) (0|[1-9][0-9]{0,4})\n\z`)
)

// wrongWords returns the error of words at a place that is right.
func wrongWords(p file.Place, words []string) api.Errno {
	bytes := len(fmt.Sprint(names[p.Kind], " ", p.Number))
	for _, word := range words {
		bytes += 1 + len(word)
	}
	switch {
	case len(words) > 6:
		return api.ErrCount
	case slices.ContainsFunc(words, func(word string) bool { return !rightWord.MatchString(word) }):
		return api.ErrForm
	case bytes > 64:
		return api.ErrLong
	}
	return api.OK
}

// wrongPlace returns the error of a place.
func wrongPlace(p file.Place) api.Errno {
	switch {
	case p.Kind < 0 || p.Kind > 4:
		return api.ErrVerb
	case p.Number < 0 || p.Number > 999:
		return api.ErrRange
	}
	return api.OK
}

func behind(p, before file.Place) bool {
	return p.Kind > before.Kind || p.Kind == before.Kind && p.Number > before.Number
}

// wrongFile returns the error of a file.
func wrongFile(f []file.Record) api.Errno {
	if len(f) > 40 {
		return api.ErrCount
	}
	for i, r := range f {
		p := at(r.Kind, r.Number)
		if e := wrongPlace(p); e != api.OK {
			return e
		}
		if e := wrongWords(p, r.Words); e != api.OK {
			return e
		}
		if i > 0 && !behind(p, at(f[i-1].Kind, f[i-1].Number)) {
			return api.ErrOrder
		}
	}
	return api.OK
}

// parsed is what Parse returns.
type parsed struct {
	f          []file.Record
	line, word int
	e          api.Errno
}

// parse finds what Parse returns, line by line.
func parse(text string) parsed {
	var f []file.Record
	for i, line := range strings.SplitAfter(text, "\n") {
		if line == "" {
			continue
		}
		bytes := strings.TrimSuffix(line, "\n")
		l := strings.Split(bytes, " ")
		wrong := func(word int, e api.Errno) parsed { return parsed{nil, i, word, e} }
		switch {
		case i >= 40:
			return wrong(0, api.ErrCount)
		case len(bytes) > 64:
			return wrong(0, api.ErrLong)
		case bytes == line:
			return wrong(0, api.ErrForm)
		case !slices.Contains(names, l[0]):
			return wrong(0, api.ErrVerb)
		case len(l) < 2 || !rightNum.MatchString(l[1]):
			return wrong(1, api.ErrForm)
		case len(l) > 8:
			return wrong(8, api.ErrCount)
		}
		for n, word := range l[2:] {
			if !rightWord.MatchString(word) {
				return wrong(n+2, api.ErrForm)
			}
		}
		r := file.Record{Kind: file.Kind(slices.Index(names, l[0])), Words: l[2:]}
		fmt.Sscan(l[1], &r.Number)
		if len(f) > 0 && !behind(at(r.Kind, r.Number), at(f[len(f)-1].Kind, f[len(f)-1].Number)) {
			return wrong(1, api.ErrOrder)
		}
		f = append(f, r)
	}
	return parsed{f: f}
}

// print tells the text of a file.
func print(f []file.Record) string {
	var text string
	for _, r := range f {
		text += fmt.Sprint(names[r.Kind], " ", r.Number)
		for _, word := range r.Words {
			text += " " + word
		}
		text += "\n"
	}
	return text
}

// diff finds the changes from one file to another one, place by place.
func diff(a, b []file.Record) []file.Change {
	var l []file.Change
	for _, p := range placesOf(a, b) {
		switch x, y := what(a, p), what(b, p); {
		case x == y:
		case x == "-":
			l = append(l, add(p.Kind, p.Number, y))
		case y == "-":
			l = append(l, drop(p.Kind, p.Number, x))
		default:
			l = append(l, from(p.Kind, p.Number, x, y))
		}
	}
	return l
}

// fits reports whether changes fit a file.
func fits(f []file.Record, l []file.Change) bool {
	return !slices.ContainsFunc(l, func(c file.Change) bool { return what(f, at(c.Kind, c.Number)) != said(c.Had, c.Old) })
}

// made returns the file in which changes that fit are made.
func made(f []file.Record, l []file.Change) []file.Record {
	var left []file.Record
	for _, r := range f {
		if !slices.ContainsFunc(l, func(c file.Change) bool { return c.Kind == r.Kind && c.Number == r.Number }) {
			left = append(left, r)
		}
	}
	for _, c := range l {
		if c.Has {
			left = append(left, file.Record{Kind: c.Kind, Number: c.Number, Words: c.New})
		}
	}
	slices.SortFunc(left, func(r, s file.Record) int { return int(r.Kind-s.Kind)*1000 + r.Number - s.Number })
	return left
}

// sumsOf finds both sums of a body.
func sumsOf(body string) (int, int) {
	first, second := 0, 0
	for i, b := range []byte(body) {
		first += int(b)
		second += (i + 1) * int(b)
	}
	return first % 65537, second % 65537
}

// bodyOf returns the body of a text that has the form of a sealed text, and where its last line begins.
func bodyOf(text string) (string, int, api.Errno) {
	if len(text) > 4096+20 {
		return "", 0, api.ErrLong
	}
	start := strings.LastIndex(text, "\nseal ") + 1
	found := rightSeal.FindStringSubmatch(text[start:])
	if found == nil || len(found[1]) == 5 && found[1] > "65536" || len(found[2]) == 5 && found[2] > "65536" {
		return "", 0, api.ErrForm
	}
	if start == 0 || start > 4096 {
		return "", 0, api.ErrForm
	}
	return text[:start], start, api.OK
}

func sealed(body string) string {
	first, second := sumsOf(body)
	return fmt.Sprintf("%sseal %d %d\n", body, first, second)
}

func open(text string) (string, api.Errno) {
	body, _, e := bodyOf(text)
	switch {
	case e != api.OK:
		return "", e
	case sealed(body) != text:
		return "", api.ErrFalse
	}
	return body, api.OK
}

// mends returns all sealed texts that differ from a text in just one byte, and their places: all bytes are tried at all places
// that are not in the last line.
func mends(text string) ([]string, []int) {
	var all []string
	var found []int
	for i := range strings.LastIndex(strings.TrimSuffix(text, "\n"), "\n") + 1 {
		for b := range 256 {
			other := text[:i] + string([]byte{byte(b)}) + text[i+1:]
			if _, start, e := bodyOf(other); e != api.OK || i >= start || other == text {
				continue
			}
			if _, e := open(other); e == api.OK {
				all, found = append(all, other), append(found, i)
			}
		}
	}
	return all, found
}

// contents are those of the places of small files: no record, and two different ones.
var contents = []string{"-", "", "a"}

// smallFiles returns all files that have one of the contents at each of so many places.
func smallFiles(n int) [][]file.Record {
	if n == 0 {
		return [][]file.Record{nil}
	}
	var all [][]file.Record
	for _, f := range smallFiles(n - 1) {
		for _, c := range contents {
			if c == "-" {
				all = append(all, f)
				continue
			}
			all = append(all, append(slices.Clone(f), rec(file.Kind(n), 7, c)))
		}
	}
	return all
}

// smallChanges returns all changes of these files.
func smallChanges(n int) [][]file.Change {
	if n == 0 {
		return [][]file.Change{nil}
	}
	kind := file.Kind(n)
	here := changes(add(kind, 7, ""), add(kind, 7, "a"), drop(kind, 7, ""), drop(kind, 7, "a"), from(kind, 7, "", "a"), from(kind, 7, "a", ""))
	var all [][]file.Change
	for _, l := range smallChanges(n - 1) {
		all = append(all, l)
		for _, c := range here {
			all = append(all, append(slices.Clone(l), c))
		}
	}
	return all
}

func someWords(r *rand.Rand) string {
	var l []string
	for range r.Intn(3) {
		l = append(l, []string{"tide", "storm", "at", "0"}[r.Intn(4)])
	}
	return strings.Join(l, " ")
}

// someFile returns one of at most so many records, of few kinds and numbers.
func someFile(r *rand.Rand, most int) []file.Record {
	found := map[file.Place]string{}
	for range r.Intn(most + 1) {
		found[at(file.Kind(r.Intn(5)), []int{0, 1, 7, 12, 100, 999, r.Intn(30), r.Intn(1000)}[r.Intn(8)])] = someWords(r)
	}
	var f []file.Record
	for p, words := range found {
		f = append(f, rec(p.Kind, p.Number, words))
	}
	slices.SortFunc(f, func(r, s file.Record) int { return int(r.Kind-s.Kind)*1000 + r.Number - s.Number })
	return f
}

// someCopy returns a file that has at most places what another one has, and at some something else.
func someCopy(r *rand.Rand, f []file.Record, most int) []file.Record {
	g := someFile(r, most)
	often := r.Intn(5)
	return having(placesOf(f, g), func(p file.Place) string {
		switch {
		case r.Intn(5) >= often:
			return what(f, p)
		case r.Intn(3) > 0:
			return what(g, p)
		}
		return someWords(r)
	})
}

// someCopies calls a function with a file and two copies of it, always the same ones.
func someCopies(t *testing.T, n, most int, check func(r *rand.Rand, base, a, b []file.Record)) {
	t.Helper()
	r := rand.New(rand.NewSource(11))
	for range n {
		base := someFile(r, most)
		a, b := someCopy(r, base, most), someCopy(r, base, most)
		if len(a) > file.MaxRecords || len(b) > file.MaxRecords {
			continue
		}
		check(r, base, a, b)
		if t.Failed() {
			t.Fatalf("at the copies %q, %q and %q", print(base), print(a), print(b))
		}
	}
}

// args are what a call is given; each call takes what it needs of them.
type args struct {
	f, a, b       []file.Record
	r             file.Record
	p             file.Place
	l, m          []file.Change
	second        []bool
	text, body    string
	sealed, wrong string
}

// good returns arguments with which each call is right, and has a result that is not zero.
func good() args {
	return args{
		f:      records(rec(file.Notice, 3, "tide at six"), rec(file.Fee, 12, "x")),
		a:      records(rec(file.Notice, 3, "storm"), rec(file.Fee, 12, "x"), rec(file.Plea, 0, "y z")),
		b:      records(rec(file.Notice, 3, "ebb"), rec(file.Fee, 12, "x"), rec(file.Plea, 1, "")),
		r:      rec(file.Stand, 1, "quay"),
		p:      at(file.Notice, 3),
		l:      changes(add(file.Stand, 1, "quay"), from(file.Notice, 3, "tide at six", "storm at ten")),
		m:      changes(drop(file.Stand, 1, "quay"), from(file.Notice, 3, "storm at ten", "tide")),
		second: []bool{true},
		text:   "notice 3 tide at six\nfee 12 x\n",
		body:   "fee 1\n",
		sealed: "fee 1\nseal 395 1040\n",
		wrong:  "fee 3\nseal 395 1040\n",
	}
}

func cloneFile(f []file.Record) []file.Record {
	f = slices.Clone(f)
	for i := range f {
		f[i].Words = slices.Clone(f[i].Words)
	}
	return f
}

func cloneChanges(l []file.Change) []file.Change {
	l = slices.Clone(l)
	for i := range l {
		l[i].Old, l[i].New = slices.Clone(l[i].Old), slices.Clone(l[i].New)
	}
	return l
}

func (x args) clone() args {
	x.f, x.a, x.b = cloneFile(x.f), cloneFile(x.a), cloneFile(x.b)
	x.l, x.m = cloneChanges(x.l), cloneChanges(x.m)
	x.r.Words, x.second = slices.Clone(x.r.Words), slices.Clone(x.second)
	return x
}

// call is one of the functions, with its results beside the error.
type call struct {
	name string
	do   func(args) ([]any, api.Errno)
}

func one[T any](v T, e api.Errno) ([]any, api.Errno) { return []any{v}, e }

func two[S, T any](v S, x T, e api.Errno) ([]any, api.Errno) { return []any{v, x}, e }

// calls returns all functions. Of Parse they leave out the line and the word, which are not zero beside an error.
func calls() []call {
	return []call{
		{"Check", func(x args) ([]any, api.Errno) { return nil, file.Check(x.f) }},
		{"Print", func(x args) ([]any, api.Errno) { return one(file.Print(x.f)) }},
		{"Parse", func(x args) ([]any, api.Errno) { f, _, _, e := file.Parse(x.text); return one(f, e) }},
		{"Get", func(x args) ([]any, api.Errno) { return one(file.Get(x.f, x.p)) }},
		{"Put", func(x args) ([]any, api.Errno) { return one(file.Put(x.f, x.r)) }},
		{"Drop", func(x args) ([]any, api.Errno) { return one(file.Drop(x.f, x.p)) }},
		{"CheckChanges", func(x args) ([]any, api.Errno) { return nil, file.CheckChanges(x.l) }},
		{"Diff", func(x args) ([]any, api.Errno) { return one(file.Diff(x.f, x.a)) }},
		{"Make", func(x args) ([]any, api.Errno) { return one(file.Make(x.f, x.l)) }},
		{"Back", func(x args) ([]any, api.Errno) { return one(file.Back(x.l)) }},
		{"After", func(x args) ([]any, api.Errno) { return one(file.After(x.l, x.m)) }},
		{"Join", func(x args) ([]any, api.Errno) { return two(file.Join(x.f, x.a, x.b)) }},
		{"Settle", func(x args) ([]any, api.Errno) { return one(file.Settle(x.f, x.a, x.b, x.second)) }},
		{"Seal", func(x args) ([]any, api.Errno) { return one(file.Seal(x.body)) }},
		{"Open", func(x args) ([]any, api.Errno) { return one(file.Open(x.sealed)) }},
		{"Mend", func(x args) ([]any, api.Errno) { return two(file.Mend(x.wrong)) }},
	}
}

// zero reports whether all results are; a list without elements is zero, too.
func zero(results []any) bool {
	for _, r := range results {
		v := reflect.ValueOf(r)
		if !v.IsZero() && !(v.Kind() == reflect.Slice && v.Len() == 0) {
			return false
		}
	}
	return true
}
