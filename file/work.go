package file

import (
	"cmp"
	"maps"
	"slices"

	"oyez/api"
)

// content is what a place has: a record with some words, or none.
type content struct {
	has   bool
	words []string
}

// records are what places have. A place of which nothing is kept has no record.
type records struct {
	at map[Place]content
}

// work is a file at work: its records, and those of the two copies that began from it, if there are any.
type work struct {
	records
	a, b records
}

// open returns a file at work, or the error of the file.
func open(f []Record) (work, api.Errno) {
	if e := Check(f); e != api.OK {
		return work{}, e
	}
	return work{records: laid(f, Record.content)}, api.OK
}

// openAt is open, with the error of a place without a record.
func openAt(f []Record, p Place) (work, api.Errno) {
	w, e := open(f)
	if e != api.OK {
		return work{}, e
	}
	if !w.at[p].has {
		return work{}, api.ErrAbsent
	}
	return w, api.OK
}

// openCopies is open, with two copies of the file, and the errors of these.
func openCopies(base, a, b []Record) (work, api.Errno) {
	var opened [3]records
	for n, f := range [][]Record{base, a, b} {
		w, e := open(f)
		if e != api.OK {
			return work{}, e
		}
		opened[n] = w.records
	}
	return work{records: opened[0], a: opened[1], b: opened[2]}, api.OK
}

// placed is what is at a place, and can be wrong.
type placed interface {
	place() Place
	wrong() api.Errno
}

// wrong returns the error of a list: it has at most so many elements, and the first one with which something is wrong decides.
func wrong[T placed](list []T, most int) api.Errno {
	if len(list) > most {
		return api.ErrCount
	}
	for n := range len(list) {
		if e := list[n].wrong(); e != api.OK {
			return e
		}
		if n > 0 && order(list[n-1].place(), list[n].place()) >= 0 {
			return api.ErrOrder
		}
	}
	return api.OK
}

// laid returns what the elements of a list say of their places.
func laid[T placed](list []T, says func(T) content) records {
	at := map[Place]content{}
	for _, x := range list {
		at[x.place()] = says(x)
	}
	return records{at}
}

// with returns a copy of records in which one place has something else.
func (r records) with(p Place, c content) records {
	at := maps.Clone(r.at)
	at[p] = c
	return records{at}
}

// overlaid returns a copy of records in which all places that others keep have what these say.
func (r records) overlaid(others records) records {
	at := maps.Clone(r.at)
	maps.Copy(at, others.at)
	return records{at}
}

// known returns what a place has, which is known of all places of a file.
func (r records) known(p Place) (content, bool) {
	return r.at[p], true
}

// touched returns what a place has, and whether anything was kept of it.
func (r records) touched(p Place) (content, bool) {
	c, kept := r.at[p]
	return c, kept
}

// list returns the records as a file, unless they are too many.
func (r records) list() ([]Record, api.Errno) {
	var f []Record
	for _, p := range places(r) {
		if c := r.at[p]; c.has {
			f = append(f, Record{p.Kind, p.Number, slices.Clone(c.words)})
		}
	}
	if len(f) > MaxRecords {
		return nil, api.ErrCount
	}
	return f, api.OK
}

// places returns those of which some records keep anything, in order.
func places(some ...records) []Place {
	var list []Place
	for _, r := range some {
		list = slices.AppendSeq(list, maps.Keys(r.at))
	}
	slices.SortFunc(list, order)
	return slices.Compact(list)
}

// order is that of places.
func order(p, q Place) int {
	return cmp.Or(cmp.Compare(p.Kind, q.Kind), cmp.Compare(p.Number, q.Number))
}

// is reports whether two places have the same.
func (c content) is(other content) bool {
	return c.has == other.has && slices.Equal(c.words, other.words)
}

func between(n, lo, hi int) bool { return lo <= n && n <= hi }

// all reports whether something is so for each element of a list.
func all[T any](list []T, is func(T) bool) bool {
	for _, x := range list {
		if !is(x) {
			return false
		}
	}
	return true
}

// those returns the elements of a list for which something is so.
func those[T any](list []T, is func(T) bool) []T {
	var some []T
	for _, x := range list {
		if is(x) {
			some = append(some, x)
		}
	}
	return some
}
