package clerk

import (
	"slices"
	"strings"

	"oyez/api"
	"oyez/file"
	"oyez/hear"
	"oyez/news"
)

// plotLetters are those of a street, a house and a wall, in the order of their kinds.
const plotLetters = "shw"

// firstVoice is that of the air of a new town.
const firstVoice = 5

// draw makes the town.
func (s *state) draw(a args) (string, api.Errno) {
	if s.hasTown() {
		return "", api.ErrTwice
	}
	wide := len(a.words[0])
	if !all(a.words, func(row string) bool { return len(row) == wide }) {
		return "", api.ErrFalse
	}
	t := hear.Town{Wide: wide, Plots: plotsOf(strings.Join(a.words, ""))}
	if e := hear.Check(t); e != api.OK {
		return "", e
	}
	houses := housesAhead(t, len(t.Plots))
	if houses == 0 {
		return "", api.ErrNone
	}
	s.town, s.air, s.news.Houses = t, hear.Air{Wind: hear.Calm, Voice: firstVoice}, houses
	return told(houses), api.OK
}

func plotsOf(letters string) []hear.Plot {
	var plots []hear.Plot
	for _, letter := range letters {
		plots = append(plots, hear.Plot(strings.IndexRune(plotLetters, letter)))
	}
	return plots
}

// housesAhead returns how many houses a town has ahead of a plot. Of a house this is its number.
func housesAhead(t hear.Town, plot int) int {
	houses := 0
	for p := range plot {
		if t.Plots[p] == hear.House {
			houses++
		}
	}
	return houses
}

// turn makes the air another one.
func (s *state) turn(a args) (string, api.Errno) {
	air := hear.Air{Wind: hear.Dir(a.numbers[0]), Voice: a.numbers[1]}
	if e := hear.CheckAir(air); e != api.OK {
		return "", e
	}
	s.air = air
	return done, api.OK
}

// link makes a link between two houses.
func (s *state) link(a args) (string, api.Errno) {
	from, to := a.numbers[0], a.numbers[1]
	joined := func(l [2]int) bool { return slices.Contains(l[:], from) && slices.Contains(l[:], to) }
	switch {
	case len(s.news.Links) >= news.MaxLinks:
		return "", api.ErrCount
	case !all(a.numbers, s.isHouse):
		return "", api.ErrAbsent
	case from == to:
		return "", api.ErrFalse
	case slices.ContainsFunc(s.news.Links, joined):
		return "", api.ErrTwice
	}
	s.news.Links = with(s.news.Links, [2]int{from, to})
	return done, api.OK
}

// stand makes a stand, with those who hear it in the air of now.
func (s *state) stand(a args) (string, api.Errno) {
	index := s.counts()[file.Stand]
	if index >= news.MaxStands {
		return "", api.ErrCount
	}
	plots, e := hear.Houses(s.town, s.air, a.numbers[0])
	if e != api.OK {
		return "", e
	}
	houses := each(plots, func(plot int) int { return housesAhead(s.town, plot) })
	s.plots = with(s.plots, a.numbers[0])
	s.news.Stands = with(s.news.Stands, houses)
	return told(with([]int{index}, houses...)...), api.OK
}
