package file

import (
	"slices"
	"strconv"
	"strings"

	"oyez/api"
)

// letters are what words can be made of.
type letters string

const allowed letters = "abcdefghijklmnopqrstuvwxyz0123456789"

func (l letters) has(c rune) bool { return strings.ContainsRune(string(l), c) }

// names are those of the kinds.
func names() []string {
	return []string{Stand: "stand", Notice: "notice", Find: "find", Fee: "fee", Plea: "plea"}
}

func (r Record) place() Place     { return Place{r.Kind, r.Number} }
func (r Record) content() content { return content{true, r.Words} }

// wrong returns the error of a record alone.
func (r Record) wrong() api.Errno {
	if e := r.place().wrong(); e != api.OK {
		return e
	}
	return r.place().wrongWords(r.Words)
}

// wrong returns the error of a place.
func (p Place) wrong() api.Errno {
	switch {
	case !between(int(p.Kind), 0, len(names())-1):
		return api.ErrVerb
	case !between(p.Number, 0, MaxNumber):
		return api.ErrRange
	}
	return api.OK
}

// wrongWords returns the error of the words of a record at a place that is right.
func (p Place) wrongWords(words []string) api.Errno {
	switch {
	case len(words) > MaxWords:
		return api.ErrCount
	case !all(words, isWord):
		return api.ErrForm
	case len(p.line(words)) > MaxLine:
		return api.ErrLong
	}
	return api.OK
}

// line returns the line of a record at a place that is right.
func (p Place) line(words []string) string {
	head := []string{names()[p.Kind], strconv.Itoa(p.Number)}
	return joined(slices.Concat(head, words)...)
}

// joined returns words with a blank between each two of them.
func joined(words ...string) string {
	return strings.Join(words, " ")
}

func isWord(word string) bool {
	return between(len(word), 1, MaxWord) && consists(word, allowed.has)
}

// consists reports whether a word is made of what may stand in it alone. A byte that is no letter of its own is no letter
// that may stand there, either.
func consists(word string, may func(rune) bool) bool {
	for _, c := range word {
		if !may(c) {
			return false
		}
	}
	return true
}

// number returns that which a word is in decimal without leading zeros, and whether it is one, from 0 to another one.
func number(word string, most int) (int, bool) {
	n, err := strconv.Atoi(word)
	if err != nil || !between(n, 0, most) || strconv.Itoa(n) != word {
		return 0, false
	}
	return n, true
}
