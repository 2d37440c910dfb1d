package clerk

import (
	"slices"
	"strings"

	"oyez/api"
	"oyez/file"
	"oyez/news"
	"oyez/text"
)

// comma is what a word has at its end if a stop is behind it.
const comma = ","

// turning is the word that turns what the next one says.
const turning = "not"

// vowels are the letters that make syllables.
const vowels = "aeiouy"

func (s *state) say(a args) (string, api.Errno)      { return s.notice(a, false) }
func (s *state) takeBack(a args) (string, api.Errno) { return s.notice(a, true) }

// notice takes a notice.
func (s *state) notice(a args, back bool) (string, api.Errno) {
	index, after := s.counts()[file.Notice], a.numbers[0]
	switch {
	case index >= news.MaxNotices:
		return "", api.ErrCount
	case after != news.None && !s.isNotice(after):
		return "", api.ErrAbsent
	case after != news.None && s.isFollowed(after):
		return "", api.ErrTwice
	}
	t := textOf(a.words[1:])
	reading, e := text.Fewest(t)
	if e != api.OK {
		return "", e
	}
	s.news.Notices = with(s.news.Notices, news.Notice{After: after, Back: back})
	s.texts = with(s.texts, t)
	return told(index, len(reading)), api.OK
}

// isFollowed reports whether a notice follows another one.
func (s *state) isFollowed(notice int) bool {
	return slices.ContainsFunc(s.news.Notices, func(n news.Notice) bool { return n.After == notice })
}

// textOf returns the text of the words of a line.
func textOf(words []string) text.Text {
	t := text.Text{Breath: Breath}
	for n, word := range words {
		t.Words = append(t.Words, wordOf(word))
		if word == turning && n < len(words)-1 {
			t.Turns = append(t.Turns, text.Turn{Word: n, Core: api.Span{Lo: n + 1, Hi: n + 1}})
		}
	}
	return t
}

func wordOf(word string) text.Word {
	bare, stop := strings.CutSuffix(word, comma)
	return text.Word{
		Syllables: max(1, vowelsOf(bare)),
		Weight:    min(text.MaxWeight, len(bare)),
		Stop:      stop,
	}
}

func vowelsOf(word string) int {
	many := 0
	for _, letter := range word {
		if strings.ContainsRune(vowels, letter) {
			many++
		}
	}
	return many
}

// cry makes a cry of a notice at a stand.
func (s *state) cry(a args) (string, api.Errno) {
	c := news.Cry{Notice: a.numbers[0], Stand: a.numbers[1]}
	switch {
	case len(s.cries) >= news.MaxCries:
		return "", api.ErrCount
	case !s.isNotice(c.Notice) || !s.isStand(c.Stand):
		return "", api.ErrAbsent
	}
	s.cries = with(s.cries, c)
	return done, api.OK
}

// isSilent reports whether there is nothing that could be cried, or nowhere to cry it.
func (s *state) isSilent() bool { return !s.has(file.Notice) || !s.has(file.Stand) }

// left tells who is left, with what.
func (s *state) left(a args) (string, api.Errno) {
	if s.isSilent() {
		return "", api.ErrNone
	}
	gaps, e := news.Left(s.news, s.cries, a.numbers[0])
	if e != api.OK {
		return "", e
	}
	var numbers []int
	for _, g := range gaps {
		numbers = append(numbers, g.House, g.Notice)
	}
	return told(numbers...), api.OK
}

// holds tells what a house holds.
func (s *state) holds(a args) (string, api.Errno) {
	if s.isSilent() {
		return "", api.ErrNone
	}
	notices, e := news.Holds(s.news, s.cries, a.numbers[0], a.numbers[1])
	if e != api.OK {
		return "", e
	}
	return told(notices...), api.OK
}

// mend tells how many further cries leave nobody.
func (s *state) mend(a args) (string, api.Errno) {
	if s.isSilent() {
		return "", api.ErrNone
	}
	further, e := news.Fewest(s.news, s.cries, a.numbers[0], a.numbers[1:])
	if e != api.OK {
		return "", e
	}
	return told(len(further)), api.OK
}
