package file

import (
	"slices"

	"oyez/api"
)

func (c Change) place() Place    { return Place{c.Kind, c.Number} }
func (c Change) before() content { return content{c.Had, c.Old} }
func (c Change) after() content  { return content{c.Has, c.New} }

// wrong returns the error of a change alone.
func (c Change) wrong() api.Errno {
	if e := c.place().wrong(); e != api.OK {
		return e
	}
	for _, words := range [][]string{c.Old, c.New} {
		if e := c.place().wrongWords(words); e != api.OK {
			return e
		}
	}
	if !all([]content{c.before(), c.after()}, content.isTrue) || c.before().is(c.after()) {
		return api.ErrFalse
	}
	return api.OK
}

// isTrue reports whether there are no words without a record.
func (c content) isTrue() bool { return c.has || len(c.words) == 0 }

// changed returns the changes that make some records of others, unless they are too many.
func changed(had, has records) ([]Change, api.Errno) {
	var l []Change
	for _, p := range places(had, has) {
		before, after := had.at[p], has.at[p]
		if !before.is(after) {
			l = append(l, Change{p.Kind, p.Number, before.has, after.has, slices.Clone(before.words), slices.Clone(after.words)})
		}
	}
	if len(l) > MaxChanges {
		return nil, api.ErrCount
	}
	return l, api.OK
}

// fit reports whether changes had what there is at their places, as far as this is known.
func fit(l []Change, known func(Place) (content, bool)) bool {
	fits := true
search:
	for _, c := range l {
		there, is := known(c.place())
		switch {
		case !is:
			// What is not known can be what the change had.
		case !there.is(c.before()):
			fits = false
			break search
		}
	}
	return fits
}
