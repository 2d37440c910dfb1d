package slot

import (
	"slices"

	"oyez/api"
)

// cry is a notice, and a man who cries it.
type cry struct{ notice, man int }

// work is a roll at work: which men, who have a load, may take one notice more.
type work struct {
	Roll
	takes func(man, load int) bool
}

// open returns a roll at work, or the error of the roll.
func open(r Roll) (work, api.Errno) {
	if e := Check(r); e != api.OK {
		return work{}, e
	}
	return work{Roll: r}, api.OK
}

// openShare is open, with the errors of a share.
func openShare(r Roll, share [][]int) (work, api.Errno) {
	w, e := open(r)
	if e != api.OK {
		return work{}, e
	}
	if e := w.shareError(share); e != api.OK {
		return work{}, e
	}
	return w, api.OK
}

// openPlan is open, with the errors of a plan.
func openPlan(r Roll, plan [][]int) (work, api.Errno) {
	w, e := open(r)
	if e != api.OK {
		return work{}, e
	}
	if len(plan) > MaxSlots || !all(plan, w.hasAllMen) {
		return work{}, api.ErrCount
	}
	if !all(plan, w.hasNotices) {
		return work{}, api.ErrAbsent
	}
	if !all(plan, hasNoneTwice) {
		return work{}, api.ErrTwice
	}
	if w.shareError(w.sharedIn(plan)) != api.OK {
		return work{}, api.ErrFalse
	}
	return w, api.OK
}

// all reports whether something is so for each element of a list.
func all[T any](list []T, is func(T) bool) bool {
	for _, x := range list {
		if !is(x) {
			return false
		}
	}
	return true
}

// those returns the elements of a list for which something is so.
func those[T any](list []T, is func(T) bool) []T {
	var some []T
	for _, x := range list {
		if is(x) {
			some = append(some, x)
		}
	}
	return some
}

// except returns a list without one of its numbers.
func except(list []int, n int) []int {
	return those(list, func(x int) bool { return x != n })
}

// places returns those of a list that have an element.
func places[T comparable](list []T, element T) []int {
	var some []int
	for i, x := range list {
		if x == element {
			some = append(some, i)
		}
	}
	return some
}

// numbers returns those from 0 on.
func numbers(many int) []int {
	var list []int
	for n := range many {
		list = append(list, n)
	}
	return list
}

// greatest returns the greatest of several loads, or 0 of none.
func greatest(loads ...int) int {
	most := 0
	for _, load := range loads {
		most = max(most, load)
	}
	return most
}

func increases(list []int) bool {
	for i := 1; i < len(list); i++ {
		if list[i-1] >= list[i] {
			return false
		}
	}
	return true
}

func between(n, lo, hi int) bool          { return lo <= n && n <= hi }
func (w work) isMan(n int) bool           { return between(n, 0, w.Men-1) }
func (w work) isNotice(n int) bool        { return between(n, 0, len(w.Notices)-1) }
func (w work) isNumber(n int) bool        { return n == None || w.isNotice(n) }
func (w work) may(c cry) bool             { return slices.Contains(w.Notices[c.notice].Men, c.man) }
func (w work) hasAllMen(slot []int) bool  { return len(slot) == w.Men }
func (w work) hasNotices(slot []int) bool { return all(slot, w.isNumber) }
func (w work) wrongCounts() bool {
	return !between(w.Men, 1, MaxMen) || len(w.Notices) > MaxNotices
}

func hasNoneTwice(slot []int) bool {
	return all(slot, func(n int) bool { return n == None || len(places(slot, n)) == 1 })
}

func (w work) noticeError(n Notice) api.Errno {
	if !between(n.Times, 1, MaxTimes) {
		return api.ErrRange
	}
	if !all(n.Men, w.isMan) {
		return api.ErrAbsent
	}
	if !increases(n.Men) {
		return api.ErrOrder
	}
	if len(n.Men) < n.Times {
		return api.ErrNone
	}
	return api.OK
}

func (w work) shareError(share [][]int) api.Errno {
	if len(share) != len(w.Notices) {
		return api.ErrCount
	}
	for notice, men := range share {
		if len(men) != w.Notices[notice].Times {
			return api.ErrCount
		}
		if !all(criesOf(notice, men), w.may) {
			return api.ErrAbsent
		}
		if !increases(men) {
			return api.ErrOrder
		}
	}
	return api.OK
}

func (w work) keptError(share [][]int, slots int, kept []Entry) api.Errno {
	for i, k := range kept {
		if !between(k.Slot, 0, slots-1) || !w.isMan(k.Man) || !w.isNotice(k.Notice) {
			return api.ErrAbsent
		}
		if !slices.Contains(share[k.Notice], k.Man) {
			return api.ErrFalse
		}
		if slices.ContainsFunc(kept[:i], k.excludes) {
			return api.ErrTwice
		}
	}
	return api.OK
}

// excludes reports whether two entries have two things in common, so that no plan has both.
func (e Entry) excludes(other Entry) bool {
	return other == Entry{e.Slot, e.Man, other.Notice} ||
		other == Entry{other.Slot, e.Man, e.Notice} ||
		other == Entry{e.Slot, other.Man, e.Notice}
}

// criesOf returns those of a notice.
func criesOf(notice int, men []int) []cry {
	var list []cry
	for _, man := range men {
		list = append(list, cry{notice, man})
	}
	return list
}

// cries returns those of a share.
func cries(share [][]int) []cry {
	var list []cry
	for notice, men := range share {
		list = append(list, criesOf(notice, men)...)
	}
	return list
}
