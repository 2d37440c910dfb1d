package file

import (
	"iter"
	"slices"
	"strings"

	"oyez/api"
)

// rule is what the words of a line from one to another one must be, and the error if one of them is not.
type rule struct {
	first, last int
	is          func(word string) bool
	wrong       api.Errno
}

// rules are in the order in which a line is asked for them.
func rules() []rule {
	return []rule{
		{0, 0, isName, api.ErrVerb},
		{1, 1, isNumber, api.ErrForm},
		{MaxWords + 2, MaxWords + 2, isNever, api.ErrCount},
		{2, MaxWords + 1, isWord, api.ErrForm},
	}
}

func isName(word string) bool { return slices.Contains(names(), word) }
func isNever(string) bool     { return false }

func isNumber(word string) bool {
	_, is := number(word, MaxNumber)
	return is
}

// parsed returns the file whose text it is, or the line and the word of the first error.
func parsed(text string) ([]Record, int, int, api.Errno) {
	var f []Record
	read := func(line string, ends bool) (int, api.Errno) {
		if e := wrongLine(len(f), line, ends); e != api.OK {
			return 0, e
		}
		if word, e := wrongWord(line); e != api.OK {
			return word, e
		}
		f = append(f, record(line))
		// All that was read before is right, so only the order can be wrong now.
		return 1, Check(f)
	}
	for text != "" {
		at := len(f)
		line, rest, ends := strings.Cut(text, "\n")
		if word, e := read(line, ends); e != api.OK {
			return nil, at, word, e
		}
		text = rest
	}
	return f, 0, 0, api.OK
}

// wrongLine returns the error of a line as a whole: its number, its bytes, and whether a line feed ends it.
func wrongLine(number int, line string, ends bool) api.Errno {
	switch {
	case number >= MaxRecords:
		return api.ErrCount
	case len(line) > MaxLine:
		return api.ErrLong
	case !ends:
		return api.ErrForm
	}
	return api.OK
}

// wrongWord returns the first word of a line that breaks the first rule that is broken, and its error.
func wrongWord(line string) (int, api.Errno) {
	for _, r := range rules() {
		for n, word := range words(line) {
			if between(n, r.first, r.last) && !r.is(word) {
				return n, r.wrong
			}
		}
	}
	return 0, api.OK
}

// record returns that of a line without errors.
func record(line string) Record {
	var r Record
	for n, word := range words(line) {
		switch n {
		case 0:
			r.Kind = Kind(slices.Index(names(), word))
		case 1:
			r.Number, _ = number(word, MaxNumber)
		default:
			r.Words = append(r.Words, word)
		}
	}
	return r
}

// words yields those of a line, with their numbers. Where the number of a record is missing, it is a word without bytes.
func words(line string) iter.Seq2[int, string] {
	return func(yield func(int, string) bool) {
		rest, more := line, true
		for n := 0; more || n < 2; n++ {
			var word string
			word, rest, more = strings.Cut(rest, " ")
			if !yield(n, word) {
				return
			}
		}
	}
}
