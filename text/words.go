package text

import (
	"iter"
	"slices"

	"oyez/api"
)

// lists yields all lists of so many words in strictly increasing order, the lists in lexicographic order.
// The next list may be written over the one before.
func (w work) lists(many int) iter.Seq[[]int] {
	return func(yield func([]int) bool) {
		var extend func(list []int, next int) bool
		extend = func(list []int, next int) bool {
			if len(list) == many {
				return yield(list)
			}
			for word := next; word < len(w.Words); word++ {
				if !extend(append(list, word), word+1) {
					return false
				}
			}
			return true
		}
		extend(make([]int, 0, many), 0)
	}
}

// lone returns the first of the longest lists of words no two of which are in the same right breath.
func (w work) lone() []int {
	last := w.lastTogether()
	for many := len(w.Words); many > 1; many-- {
		for list := range w.lists(many) {
			if apart(list, last) {
				return slices.Clone(list)
			}
		}
	}
	return []int{0}
}

// lastTogether returns for each word the last one that is in the same right breath; itself if there is none.
func (w work) lastTogether() [MaxWords]int {
	var last [MaxWords]int
	for word := range len(w.Words) {
		last[word] = word
	}
	for from := range w.end() {
		for to := range w.breaths(from) {
			for word := from; word < to; word++ {
				last[word] = max(last[word], to-1)
			}
		}
	}
	return last
}

// apart reports whether no two words of a list are in the same right breath. A breath with two of them has those between, too, so it is enough to ask for neighbours.
func apart(list []int, last [MaxWords]int) bool {
	for i, word := range list[1:] {
		if word <= last[list[i]] {
			return false
		}
	}
	return true
}

// coreKept reports whether all words of a turn's Core are kept.
func coreKept(u Turn, kept []int) bool {
	for word := u.Core.Lo; word <= u.Core.Hi; word++ {
		if !slices.Contains(kept, word) {
			return false
		}
	}
	return true
}

func (w work) keepSense(kept []int) bool {
	return !slices.ContainsFunc(w.Turns, func(u Turn) bool {
		return coreKept(u, kept) && !slices.Contains(kept, u.Word)
	})
}

func (w work) weight(kept []int) int {
	weights := make([]int, len(kept))
	for i, word := range kept {
		weights[i] = w.Words[word].Weight
	}
	return sum(weights...)
}

// least returns the first of the shortest lists of words that keep the sense, and have a weight, or ErrNone.
func (w work) least(weight int) ([]int, api.Errno) {
	for many := 1; many <= len(w.Words); many++ {
		for list := range w.lists(many) {
			if w.weight(list) >= weight && w.keepSense(list) {
				return slices.Clone(list), api.OK
			}
		}
	}
	return nil, api.ErrNone
}

// keptWords returns the words of a shorter text: the stops of what is left out behind a word go to that word.
func (w work) keptWords(kept []int) []Word {
	words := make([]Word, len(kept))
	for i, word := range kept {
		next := len(w.Words)
		if i+1 < len(kept) {
			next = kept[i+1]
		}
		words[i] = w.Words[word]
		words[i].Stop = slices.ContainsFunc(w.Words[word:next], func(x Word) bool { return x.Stop })
	}
	return words
}

// keptTurns returns the turns of a shorter text, with the new numbers of their words.
func (w work) keptTurns(kept []int) []Turn {
	var turns []Turn
	for _, u := range w.Turns {
		if coreKept(u, kept) && slices.Contains(kept, u.Word) {
			core := api.Span{Lo: slices.Index(kept, u.Core.Lo), Hi: slices.Index(kept, u.Core.Hi)}
			turns = append(turns, Turn{Word: slices.Index(kept, u.Word), Core: core})
		}
	}
	return turns
}

// spare returns the words without which others are left, and keep the sense.
func (w work) spare() []int {
	var spare []int
	for word := range len(w.Words) {
		if others := w.without(word); len(others) > 0 && w.keepSense(others) {
			spare = append(spare, word)
		}
	}
	return spare
}

// without returns all words but one.
func (w work) without(word int) []int {
	var others []int
	for other := range len(w.Words) {
		if other != word {
			others = append(others, other)
		}
	}
	return others
}

// paidWords returns how many words are paid for: a long one counts twice.
func (w work) paidWords() int {
	n := 0
	for _, x := range w.Words {
		n++
		if x.Syllables > LongWord {
			n++
		}
	}
	return n
}
