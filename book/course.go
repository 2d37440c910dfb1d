package book

import (
	"iter"
	"slices"
)

// heard has for each house the set of the notices that it has heard.
type heard [MaxHouses]uint8

func (h heard) has(house, notice int) bool { return h[house]>>notice&1 == 1 }

// with returns what was heard if something else was heard, too.
func (h heard) with(other heard) heard {
	for house, notices := range other {
		h[house] |= notices
	}
	return h
}

// point is one of the compass, or None where it is not known.
type point int

// near reports whether a wind can be the point, or lie side by side with it.
func (p point) near(wind int) bool {
	if p == None {
		return true
	}
	turn := (wind - int(p) + Points) % Points
	return least(turn, Points-turn) <= 1
}

// place is where courses can be after an hour: the wind that it has, and what was heard until then.
type place struct {
	wind  int
	heard heard
}

// trail is how many courses come to the same, and the first one of them.
type trail struct {
	many  int
	first [MaxHours]int
}

// then returns the trail with the wind of an hour.
func (t trail) then(hour, wind int) trail {
	t.first[hour] = wind
	return t
}

// or returns the courses of both trails, of which the first one may have none.
func (t trail) or(other trail) trail {
	if t.many == 0 || slices.Compare(other.first[:], t.first[:]) < 0 {
		t.first = other.first
	}
	t.many += other.many
	return t
}

// turns yields the winds that an hour can have if the wind was another one in the hour before, in increasing order.
func (w work) turns(hour, before int) iter.Seq[int] {
	return func(yield func(int) bool) {
		for _, wind := range w.winds[hour] {
			if point(before).near(wind) && !yield(wind) {
				return
			}
		}
	}
}

// followed returns the book at work with that to which its courses come.
func (w work) followed() work {
	places := map[place]trail{{wind: None}: {many: 1}}
	for hour := range len(w.Readings) {
		places = w.after(hour, places)
	}
	w.ends = map[heard]trail{}
	for p, t := range places {
		w.ends[p.heard] = w.ends[p.heard].or(t)
	}
	return w
}

// after returns where courses can be after an hour, by where they can be before it.
func (w work) after(hour int, before map[place]trail) map[place]trail {
	places := map[place]trail{}
	for p, t := range before {
		for wind := range w.turns(hour, p.wind) {
			next := place{wind, p.heard.with(w.told[hour][wind])}
			places[next] = places[next].or(t.then(hour, wind))
		}
	}
	return places
}

// silent returns the book at work without its cries, so that all courses come to the same.
func (w work) silent() work {
	w.told = [MaxHours][Points]heard{}
	return w
}

// at returns the book at work with no other wind in an hour.
func (w work) at(hour, wind int) work {
	w.winds = slices.Clone(w.winds)
	w.winds[hour] = those(w.winds[hour], func(other int) bool { return other == wind })
	return w
}

// only returns the book at work whose courses must come to something.
func (w work) only(must func(heard) bool) work {
	w.must = must
	return w
}

// courses returns all courses that come to what they must.
func (w work) courses() trail {
	var t trail
	for h, other := range w.ends {
		if w.must(h) {
			t = t.or(other)
		}
	}
	return t
}

// possible reports whether some course comes to what it must.
func (w work) possible() bool {
	for h := range w.ends {
		if w.must(h) {
			return true
		}
	}
	return false
}

// first returns the first course that comes to what it must.
func (w work) first() []int {
	t := w.courses()
	return slices.Clone(t.first[:len(w.Readings)])
}

// clashes reports whether no course fits.
func (w work) clashes() bool { return !w.silent().followed().possible() }

// split returns for each wind how many courses have it in an hour.
func (w work) split(hour int) []int {
	var many []int
	for wind := range Points {
		many = append(many, w.silent().at(hour, wind).followed().courses().many)
	}
	return many
}

// fits reports whether a course does.
func (w work) fits(course []int) bool {
	before := None
	for hour, wind := range course {
		if !slices.Contains(slices.Collect(w.turns(hour, before)), wind) {
			return false
		}
		before = wind
	}
	return true
}

// heardOn returns what was heard on a course.
func (w work) heardOn(course []int) heard {
	var h heard
	for hour, wind := range course {
		h = h.with(w.told[hour][wind])
	}
	return h
}
