package clerk

import (
	"slices"

	"oyez/api"
	"oyez/fee"
	"oyez/file"
	"oyez/find"
	"oyez/hear"
	"oyez/news"
	"oyez/slot"
	"oyez/text"
)

// state is all that lines have done. There is no town as long as it has no plots; no criers as long as there are none in the
// box; and no traits as long as the desk has no weights.
type state struct {
	journal []string
	town    hear.Town
	air     hear.Air
	news    news.News
	cries   []news.Cry
	plots   []int       // the plot of each stand
	texts   []text.Text // the text of each notice
	box     fee.Box
	cried   []int // the notice of each round
	paid    []int
	roll    slot.Roll
	desk    find.Desk
}

// opened returns a Clerk with a state.
func opened(s state) *Clerk {
	c := &Clerk{state: s}
	c.self = c
	return c
}

func (c *Clerk) isOpen() bool { return c != nil && c.self == c }

// unready returns the error of an order that cannot be done yet, or any more.
func (s *state) unready(o order) api.Errno {
	switch {
	case !o.first && !s.hasTown():
		return api.ErrAbsent
	case !o.asks && len(s.journal) >= MaxJournal:
		return api.ErrCount
	}
	return api.OK
}

func (s *state) hasTown() bool   { return len(s.town.Plots) > 0 }
func (s *state) hasCriers() bool { return s.box.Criers > 0 }
func (s *state) hasTraits() bool { return len(s.desk.Weights) > 0 }

func (s *state) isHouse(n int) bool  { return between(n, 0, s.news.Houses-1) }
func (s *state) isStand(n int) bool  { return between(n, 0, s.counts()[file.Stand]-1) }
func (s *state) isNotice(n int) bool { return between(n, 0, s.counts()[file.Notice]-1) }

// counts is how many records of each kind there are.
type counts [file.Plea + 1]int

func (s *state) counts() counts {
	return counts{
		file.Stand:  len(s.plots),
		file.Notice: len(s.texts),
		file.Find:   len(s.desk.Lost) + len(s.desk.Found),
		file.Fee:    len(s.cried),
		file.Plea:   len(s.roll.Notices),
	}
}

func (s *state) has(k file.Kind) bool { return s.counts()[k] > 0 }

// copied returns a state that shares no memory with this one.
func (s state) copied() state {
	return state{
		journal: slices.Clone(s.journal),
		town:    copiedTown(s.town),
		air:     s.air,
		news:    copiedNews(s.news),
		cries:   slices.Clone(s.cries),
		plots:   slices.Clone(s.plots),
		texts:   each(s.texts, copiedText),
		box:     copiedBox(s.box),
		cried:   slices.Clone(s.cried),
		paid:    slices.Clone(s.paid),
		roll:    copiedRoll(s.roll),
		desk:    copiedDesk(s.desk),
	}
}

func copiedTown(t hear.Town) hear.Town {
	t.Plots = slices.Clone(t.Plots)
	return t
}

func copiedNews(n news.News) news.News {
	n.Links = slices.Clone(n.Links)
	n.Notices = slices.Clone(n.Notices)
	n.Stands = each(n.Stands, copiedInts)
	return n
}

func copiedText(t text.Text) text.Text {
	t.Words = slices.Clone(t.Words)
	t.Turns = slices.Clone(t.Turns)
	return t
}

func copiedBox(b fee.Box) fee.Box {
	b.Rounds = each(b.Rounds, func(r fee.Round) fee.Round {
		r.May = slices.Clone(r.May)
		return r
	})
	return b
}

func copiedRoll(r slot.Roll) slot.Roll {
	r.Notices = each(r.Notices, func(n slot.Notice) slot.Notice {
		n.Men = slices.Clone(n.Men)
		return n
	})
	return r
}

func copiedDesk(d find.Desk) find.Desk {
	d.Weights = slices.Clone(d.Weights)
	d.Lost = each(d.Lost, copiedInts)
	d.Found = each(d.Found, copiedInts)
	d.Rewards = slices.Clone(d.Rewards)
	return d
}

func copiedInts(l []int) []int { return slices.Clone(l) }
