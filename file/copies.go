package file

// places returns those of the file and of both copies.
func (w work) places() []Place {
	return places(w.records, w.a, w.b)
}

// conflicts returns all places where the copies have one, in order.
func (w work) conflicts() []Place {
	return those(w.places(), w.isConflict)
}

// isConflict reports whether both copies differ from the file at a place, and from each other.
func (w work) isConflict(p Place) bool {
	base, a, b := w.at[p], w.a.at[p], w.b.at[p]
	return !a.is(base) && !b.is(base) && !a.is(b)
}

// joined returns the records of both copies, and those of the file where there is a conflict.
func (w work) joined() records {
	both := records{map[Place]content{}}
	for _, p := range w.places() {
		both.at[p] = w.either(p)
	}
	return both
}

// either returns what both copies have at a place, or the one that changed it. At a conflict it is what the file has.
func (w work) either(p Place) content {
	base, a, b := w.at[p], w.a.at[p], w.b.at[p]
	switch {
	case w.isConflict(p):
		return base
	case a.is(base):
		return b
	}
	return a
}

// settled returns the records of both copies, and those of one of them at each conflict.
func (w work) settled(second []bool) records {
	both := w.joined()
	for n, p := range w.conflicts() {
		both.at[p] = w.a.at[p]
		if second[n] {
			both.at[p] = w.b.at[p]
		}
	}
	return both
}
