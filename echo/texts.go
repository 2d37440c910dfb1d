package echo

// pairs returns all pairs whose A is at most their B, in their order.
func (w work) pairs() []Pair {
	var list []Pair
	for a := range len(w.Texts) {
		for b := a; b < len(w.Texts); b++ {
			list = append(list, Pair{a, b})
		}
	}
	return list
}

// possible returns all pairs that can be.
func (w work) possible() []Pair {
	return those(w.pairs(), func(p Pair) bool { return w.of(p).least() <= w.Faults })
}

// closest returns the first pair with the fewest least faults, and these.
func (w work) closest() (Pair, int) {
	var closest Pair
	fewest := w.of(closest).least()
	for _, p := range w.pairs() {
		if n := w.of(p).least(); n < fewest {
			closest, fewest = p, n
		}
	}
	return closest, fewest
}

// distance returns that of both texts.
func (w work) distance() int { return w.compared().least() }

// confuses reports whether two texts are confused.
func (w work) confuses(p Pair) bool { return p.A != p.B && w.of(p).distance() <= 2*w.Faults }

// strand is a word of two texts that are woven: of which one it is, or Open if it is common.
type strand struct {
	word int
	side Side
}

func (s strand) isOwn() bool { return s.side != Open }

// woven returns the words of both texts in one list, so that as many as can be are common.
func (w work) woven() []strand {
	c := w.compared()
	t := c.found()
	var weave func(a, b int) []strand
	weave = func(a, b int) []strand {
		n := t[b][a][0]
		switch {
		case a+b == 0:
			return nil
		case a > 0 && n > t[b][a-1][0]:
			return append(weave(a-1, b), strand{w.texts[OfA][a-1], OfA})
		case b > 0 && n > t[b-1][a][0]:
			return append(weave(a, b-1), strand{w.texts[OfB][b-1], OfB})
		}
		return append(weave(a-1, b-1), strand{w.texts[OfA][a-1], Open})
	}
	return weave(len(w.texts[OfA]), len(w.texts[OfB]))
}

// words returns those of strands.
func words(strands []strand) []int {
	var list []int
	for _, s := range strands {
		list = append(list, s.word)
	}
	return list
}

// common returns as many common words of both texts as can be.
func (w work) common() []int { return words(without(w.woven(), strand.isOwn)) }

// middle returns the common words of both texts, with every other one of the words that only one of them has. If nothing is
// common, the first of these stays, otherwise the second one: so there are never too few or too many for a text.
func (w work) middle() []int {
	next := len(w.common()) == 0
	stays := [Noise]bool{OfA: next, OfB: next}
	var list []int
	for _, s := range w.woven() {
		if !s.isOwn() || stays[s.side] {
			list = append(list, s.word)
		}
		stays[s.side] = !stays[s.side]
	}
	return list
}
