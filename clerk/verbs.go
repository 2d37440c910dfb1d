package clerk

import (
	"strconv"
	"strings"

	"oyez/api"
	"oyez/find"
	"oyez/news"
)

// first is the verb that needs no town.
const first = "town"

// What a line has, and what is told, instead of a notice or a value if there is none.
const (
	noNotice = "none"
	noValue  = "x"
)

// args are the words of a line behind its verb, and the numbers for which they stand.
type args struct {
	words   []string
	numbers []int
}

// verb is the form of the lines that begin with it, whether they only ask, and what they do. A reply beside an error does not
// count.
type verb struct {
	form
	asks bool
	do   func(*state, args) (string, api.Errno)
}

// order is a line that has the words which its verb asks for.
type order struct {
	verb
	args
	first bool
}

// verbs returns those of all lines.
func verbs() map[string]verb {
	after, value := numberOr(noNotice, news.None), numberOr(noValue, find.Unknown)
	return map[string]verb{
		first:    {some(row), false, (*state).draw},
		"air":    {just(number, number), false, (*state).turn},
		"link":   {just(number, number), false, (*state).link},
		"stand":  {just(number), false, (*state).stand},
		"notice": {some(after, letters), false, (*state).say},
		"back":   {some(after, letters), false, (*state).takeBack},
		"cry":    {just(number, number), false, (*state).cry},
		"criers": {just(number, number, number, number), false, (*state).hire},
		"round":  {some(number, number, number), false, (*state).round},
		"pay":    {some(number), false, (*state).pay},
		"duty":   {some(number, number), false, (*state).duty},
		"traits": {some(number, number), false, (*state).traits},
		"lost":   {some(number, value), false, (*state).takeLost},
		"found":  {some(value), false, (*state).takeFound},
		"hand":   {just(), false, (*state).hand},
		"left":   {just(number), true, (*state).left},
		"holds":  {just(number, number), true, (*state).holds},
		"mend":   {some(number, number), true, (*state).mend},
		"joins":  {just(), true, (*state).joins},
		"load":   {just(), true, (*state).load},
		"paid":   {just(), true, (*state).tellPaid},
		"seal":   {just(), true, (*state).seal},
	}
}

// ordered returns what a line orders, or the error of its words.
func ordered(line string) (order, api.Errno) {
	words, e := Words(line)
	if e != api.OK {
		return order{}, e
	}
	v, is := verbs()[words[0]]
	if !is {
		return order{}, api.ErrVerb
	}
	a, fits := v.read(words[1:])
	if !fits {
		return order{}, api.ErrForm
	}
	return order{v, a, words[0] == first}, api.OK
}

// kind is what a word can be. It returns the number for which a word stands (0 if it stands for none), and whether it is of
// the kind.
type kind func(word string) (int, bool)

// form is the kinds of words. There can be more of the last one.
type form struct {
	kinds []kind
	more  bool
}

func just(kinds ...kind) form { return form{kinds, false} }
func some(kinds ...kind) form { return form{kinds, true} }

// read returns words as arguments, and whether they have the form.
func (f form) read(words []string) (args, bool) {
	if len(words) < len(f.kinds) || len(words) > len(f.kinds) && !f.more {
		return args{}, false
	}
	a := args{words: words}
	for n, word := range words {
		stands, is := f.kinds[min(n, len(f.kinds)-1)](word)
		if !is {
			return args{}, false
		}
		a.numbers = append(a.numbers, stands)
	}
	return a, true
}

// digits is how many a number has at most.
const digits = 6

func number(word string) (int, bool) {
	n, err := strconv.Atoi(word)
	if err != nil || len(word) > digits || n < 0 || strconv.Itoa(n) != word {
		return 0, false
	}
	return n, true
}

// numberOr is a number, or one word, which stands for another number.
func numberOr(other string, stands int) kind {
	return func(word string) (int, bool) {
		if word == other {
			return stands, true
		}
		return number(word)
	}
}

func row(word string) (int, bool) {
	return 0, consists(word, func(letter rune) bool { return strings.ContainsRune(plotLetters, letter) })
}

func letters(word string) (int, bool) {
	bare := strings.TrimSuffix(word, comma)
	return 0, isThere(bare) && consists(bare, func(letter rune) bool { return 'a' <= letter && letter <= 'z' })
}

// consists reports whether a word is made of some letters alone. A byte that is no letter of its own is none of these.
func consists(word string, may func(rune) bool) bool {
	for _, letter := range word {
		if !may(letter) {
			return false
		}
	}
	return true
}
