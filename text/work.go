package text

import "oyez/api"

// work is a text at work; may tells which breaths its readings may have.
type work struct {
	Text
	may func(from, to int) bool
}

// open returns a text at work whose readings may have all right breaths, or the error of the text.
func open(t Text) (work, api.Errno) {
	if e := Check(t); e != api.OK {
		return work{}, e
	}
	w := work{Text: t}
	w.may = w.right
	return w, api.OK
}

// openReading is open, with the errors of a reading.
func openReading(t Text, reading []int) (work, api.Errno) {
	w, e := open(t)
	if e != api.OK {
		return work{}, e
	}
	if e := errorIf(reading, func(words int) bool { return !between(words, 1, MaxWords) }, api.ErrRange); e != api.OK {
		return work{}, e
	}
	if sum(reading...) != len(t.Words) {
		return work{}, api.ErrCount
	}
	return w, api.OK
}

// openKept is open, with the errors of kept words.
func openKept(t Text, kept []int) (work, api.Errno) {
	w, e := open(t)
	if e != api.OK {
		return work{}, e
	}
	if len(kept) == 0 {
		return work{}, api.ErrCount
	}
	e = firstError(
		errorIf(kept, w.absent, api.ErrAbsent),
		errorIf(kept, notBehindTheLast(), api.ErrOrder),
	)
	if e != api.OK {
		return work{}, e
	}
	return w, api.OK
}

// errorIf returns an error if something is wrong with any element of a list.
func errorIf[T any](list []T, wrong func(T) bool, e api.Errno) api.Errno {
	for _, x := range list {
		if wrong(x) {
			return e
		}
	}
	return api.OK
}

// firstError returns the first error of several that are named in their order.
func firstError(errors ...api.Errno) api.Errno {
	for _, e := range errors {
		if e != api.OK {
			return e
		}
	}
	return api.OK
}

func wrongNumbers(x Word) bool {
	return !between(x.Syllables, 1, MaxSyllables) || !between(x.Weight, 0, MaxWeight)
}

func namesNoWord(t Text) func(Turn) bool {
	w := work{Text: t}
	return func(u Turn) bool { return w.absent(u.Word) || w.absent(u.Core.Lo) || w.absent(u.Core.Hi) }
}

func endsBeforeItStarts(u Turn) bool { return u.Core.Hi < u.Core.Lo }

func turnsItself(u Turn) bool { return between(u.Word, u.Core.Lo, u.Core.Hi) }

// notBehindTheLast returns whether a number is not greater than the one that was asked before it.
func notBehindTheLast() func(int) bool {
	last := -1
	return func(n int) bool {
		behind := n > last
		last = n
		return !behind
	}
}

func (w work) absent(word int) bool { return !between(word, 0, len(w.Words)-1) }

// end returns the place behind all words.
func (w work) end() int { return len(w.Words) }

func between(n, lo, hi int) bool { return lo <= n && n <= hi }

func sum(numbers ...int) int {
	total := 0
	for _, n := range numbers {
		total += n
	}
	return total
}
