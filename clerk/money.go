package clerk

import (
	"cmp"

	"oyez/api"
	"oyez/fee"
	"oyez/file"
	"oyez/slot"
)

// hire makes the criers others, who have nothing to do, and got nothing.
func (s *state) hire(a args) (string, api.Errno) {
	if s.has(file.Fee) {
		return "", api.ErrClash
	}
	b := fee.Box{Criers: a.numbers[0], Word: a.numbers[1], Stand: a.numbers[2], Fine: a.numbers[3]}
	if e := fee.Check(b); e != api.OK {
		return "", e
	}
	s.box, s.roll, s.paid = b, slot.Roll{Men: b.Criers}, make([]int, b.Criers)
	return done, api.OK
}

// round makes a round for a notice.
func (s *state) round(a args) (string, api.Errno) {
	notice := a.numbers[0]
	if !s.hasCriers() || !s.isNotice(notice) {
		return "", api.ErrAbsent
	}
	b := s.box
	b.Rounds = with(b.Rounds, fee.Round{Words: len(s.texts[notice].Words), Stands: a.numbers[1], May: a.numbers[2:]})
	pence, e := fee.Fee(b, s.counts()[file.Fee])
	if e != api.OK {
		return "", e
	}
	s.box, s.cried = b, with(s.cried, notice)
	return told(pence), api.OK
}

// pay shares the rounds, and pays for them.
func (s *state) pay(a args) (string, api.Errno) {
	if !s.has(file.Fee) {
		return "", api.ErrNone
	}
	share, _, e := fee.Best(s.box)
	if e != api.OK {
		return "", e
	}
	gets, less, e := fee.Fines(s.box, share, a.numbers)
	if e != api.OK {
		return "", e
	}
	for crier, pence := range gets {
		s.paid[crier] += pence
	}
	s.box.Rounds, s.cried = nil, nil
	return told(with(gets, less)...), api.OK
}

func (s *state) tellPaid(args) (string, api.Errno) {
	return told(s.paid...), api.OK
}

// duty puts a notice on the roll.
func (s *state) duty(a args) (string, api.Errno) {
	if !s.hasCriers() {
		return "", api.ErrAbsent
	}
	index, r := s.counts()[file.Plea], s.roll
	r.Notices = with(r.Notices, slot.Notice{Times: a.numbers[0], Men: a.numbers[1:]})
	if e := slot.Check(r); e != api.OK {
		return "", e
	}
	s.roll = r
	return told(index), api.OK
}

// load tells the least load, how many slots there are, and who proves it.
func (s *state) load(args) (string, api.Errno) {
	switch {
	case !s.hasCriers():
		return "", api.ErrAbsent
	case !s.has(file.Plea):
		return "", api.ErrNone
	}
	_, load, e := slot.Least(s.roll)
	plan, f := slot.Best(s.roll)
	tight, g := slot.Tight(s.roll)
	return told(with([]int{load, len(plan)}, tight...)...), cmp.Or(e, f, g)
}
