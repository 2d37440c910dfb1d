package clerk

import (
	"cmp"

	"oyez/api"
	"oyez/file"
	"oyez/find"
)

// traits makes the desk another one, without things.
func (s *state) traits(a args) (string, api.Errno) {
	if s.has(file.Find) {
		return "", api.ErrClash
	}
	return done, s.use(find.Desk{Slips: a.numbers[0], Weights: a.numbers[1:]})
}

// takeLost takes a lost thing.
func (s *state) takeLost(a args) (string, api.Errno) {
	if !s.hasTraits() {
		return "", api.ErrAbsent
	}
	d, index := s.desk, len(s.desk.Lost)
	d.Rewards = with(d.Rewards, a.numbers[0])
	d.Lost = with(d.Lost, a.numbers[1:])
	return told(index), s.use(d)
}

// takeFound takes a found thing.
func (s *state) takeFound(a args) (string, api.Errno) {
	if !s.hasTraits() {
		return "", api.ErrAbsent
	}
	d, index := s.desk, len(s.desk.Found)
	d.Found = with(d.Found, a.numbers)
	return told(index), s.use(d)
}

// use makes the desk another one, unless that one is wrong.
func (s *state) use(d find.Desk) api.Errno {
	e := find.Check(d)
	if e == api.OK {
		s.desk = d
	}
	return e
}

// hand hands over what surely belongs together.
func (s *state) hand(args) (string, api.Errno) {
	if !s.hasTraits() {
		return "", api.ErrAbsent
	}
	lost, found := s.sure()
	if len(found) == 0 {
		return "", api.ErrNone
	}
	rewards := 0
	for _, n := range lost {
		rewards += s.desk.Rewards[n]
	}
	s.desk.Lost = without(s.desk.Lost, lost)
	s.desk.Rewards = without(s.desk.Rewards, lost)
	s.desk.Found = without(s.desk.Found, found)
	return told(len(found), rewards), api.OK
}

// sure returns the lost and the found things that are joined with each other in all best joins, and so in any best ones.
// (What is joined with nothing has no fate.)
func (s *state) sure() (lost, found []int) {
	joins, _, _ := find.Best(s.desk)
	for l, f := range joins {
		if fate, e := find.Fates(s.desk, l, f); e == api.OK && fate == find.Always {
			lost, found = append(lost, l), append(found, f)
		}
	}
	return lost, found
}

// joins tells the worth of best joins, how many there are, and their greatest reward.
func (s *state) joins(args) (string, api.Errno) {
	if !s.hasTraits() {
		return "", api.ErrAbsent
	}
	_, worth, e := find.Best(s.desk)
	many, f := find.Count(s.desk)
	_, reward, g := find.Richest(s.desk)
	return told(worth, many, reward), cmp.Or(e, f, g)
}
