package slot_test

import (
	"math/rand"
	"reflect"
	"slices"
	"testing"

	"oyez/api"
	"oyez/slot"
)

// The tests call exported functions only, and hold their results against what this file finds out by going through all shares, all sets of men and all ways to fill a slot.

func list(n ...int) []int { return n }

func lists(l ...[]int) [][]int { return l }

func roll(men int, notices ...slot.Notice) slot.Roll { return slot.Roll{Men: men, Notices: notices} }

func notice(times int, men ...int) slot.Notice { return slot.Notice{Times: times, Men: men} }

// entries returns some of them, told by their slots, men and notices.
func entries(told ...int) []slot.Entry {
	var l []slot.Entry
	for i := 0; i < len(told); i += 3 {
		l = append(l, slot.Entry{Slot: told[i], Man: told[i+1], Notice: told[i+2]})
	}
	return l
}

// court is the roll of the examples, courtShare its share, courtPlan its plan.
func court() slot.Roll {
	return roll(3, notice(3, 0, 1, 2), notice(1, 0, 1), notice(1, 0), notice(2, 0, 1, 2))
}

func courtShare() [][]int { return lists(list(0, 1, 2), list(1), list(0), list(1, 2)) }

func courtPlan() [][]int { return lists(list(0, 1, 3), list(2, 3, 0), list(-1, 0, -1)) }

// changed returns the roll of the examples with a change.
func changed(change func(r *slot.Roll)) slot.Roll {
	r := court()
	change(&r)
	return r
}

// open returns a roll whose notices may be cried by all.
func open(men int, times ...int) slot.Roll {
	r := roll(men)
	for _, n := range times {
		r.Notices = append(r.Notices, notice(n, numbers(men)...))
	}
	return r
}

// largest is the roll with the most cries.
func largest() slot.Roll { return open(slot.MaxMen, 3, 3, 3, 3, 3, 3) }

// clone returns a roll that shares no memory with another one.
func clone(r slot.Roll) slot.Roll {
	r.Notices = slices.Clone(r.Notices)
	for i := range r.Notices {
		r.Notices[i].Men = slices.Clone(r.Notices[i].Men)
	}
	return r
}

func copied(l [][]int) [][]int {
	l = slices.Clone(l)
	for i := range l {
		l[i] = slices.Clone(l[i])
	}
	return l
}

func same(a, b [][]int) bool { return slices.EqualFunc(a, b, slices.Equal) }

func numbers(many int) []int {
	var l []int
	for n := range many {
		l = append(l, n)
	}
	return l
}

func without(l []int, n int) []int {
	return slices.DeleteFunc(slices.Clone(l), func(x int) bool { return x == n })
}

// some returns all lists of so many elements of a list, in lexicographic order.
func some(l []int, many int) [][]int {
	if many == 0 {
		return lists(nil)
	}
	var all [][]int
	for i, n := range l {
		for _, rest := range some(l[i+1:], many-1) {
			all = append(all, append(list(n), rest...))
		}
	}
	return all
}

// bySize returns all sets of men, the smaller ones first, and then in lexicographic order.
func bySize(men int) [][]int {
	var all [][]int
	for many := range men + 1 {
		all = append(all, some(numbers(men), many)...)
	}
	return all
}

// manyShares returns how many shares a roll has.
func manyShares(r slot.Roll) int {
	many := 1
	for _, n := range r.Notices {
		many *= len(some(n.Men, n.Times))
	}
	return many
}

// allShares returns all shares.
func allShares(r slot.Roll) [][][]int {
	all := [][][]int{nil}
	for _, n := range r.Notices {
		var more [][][]int
		for _, share := range all {
			for _, men := range some(n.Men, n.Times) {
				more = append(more, append(slices.Clone(share), men))
			}
		}
		all = more
	}
	return all
}

// loadsOf returns the load of each man.
func loadsOf(r slot.Roll, share [][]int) []int {
	loads := make([]int, r.Men)
	for man := range loads {
		for _, men := range share {
			if slices.Contains(men, man) {
				loads[man]++
			}
		}
	}
	return loads
}

// allLoads returns all loads of men to which shares come.
func allLoads(r slot.Roll) map[[slot.MaxMen]int]bool {
	all := map[[slot.MaxMen]int]bool{{}: true}
	for _, n := range r.Notices {
		more := map[[slot.MaxMen]int]bool{}
		for loads := range all {
			for _, men := range some(n.Men, n.Times) {
				next := loads
				for _, man := range men {
					next[man]++
				}
				more[next] = true
			}
		}
		all = more
	}
	return all
}

// leastOf returns the least load of all shares, or 99 if there are none.
func leastOf(r slot.Roll) int {
	least := 99
	for loads := range allLoads(r) {
		least = min(least, slices.Max(loads[:]))
	}
	return least
}

// isShare reports whether lists are a share of a roll.
func isShare(r slot.Roll, share [][]int) bool {
	for i, n := range r.Notices {
		isOne := func(men []int) bool { return i < len(share) && slices.Equal(share[i], men) }
		if !slices.ContainsFunc(some(n.Men, n.Times), isOne) {
			return false
		}
	}
	return len(share) == len(r.Notices)
}

// needOf returns the fewest notices that a set of men can have, notice by notice.
func needOf(r slot.Roll, set []int) int {
	total := 0
	for _, n := range r.Notices {
		fewest := 99
		for _, men := range some(n.Men, n.Times) {
			of := slices.DeleteFunc(men, func(man int) bool { return !slices.Contains(set, man) })
			fewest = min(fewest, len(of))
		}
		total += fewest
	}
	return total
}

// provesOf returns the least load with which men can cry what they must.
func provesOf(r slot.Roll, set []int) int {
	load := 0
	for load*len(set) < needOf(r, set) {
		load++
	}
	return load
}

// tightOf returns the first set that proves the most.
func tightOf(r slot.Roll) ([]int, int) {
	var best []int
	most := 0
	for _, set := range bySize(r.Men) {
		if n := provesOf(r, set); n > most {
			best, most = set, n
		}
	}
	return best, most
}

// isRight reports whether a plan is right for a share.
func isRight(r slot.Roll, share, plan [][]int) bool {
	count := map[[2]int]int{}
	for _, slots := range plan {
		if len(slots) != r.Men {
			return false
		}
		for man, n := range slots {
			if n == slot.None {
				continue
			}
			if slices.Index(slots, n) != man || n < 0 || n >= len(share) || !slices.Contains(share[n], man) {
				return false
			}
			count[[2]int{n, man}]++
		}
	}
	for n, men := range share {
		for _, man := range men {
			if count[[2]int{n, man}] != 1 {
				return false
			}
		}
	}
	return true
}

// hasEntries reports whether a plan keeps entries.
func hasEntries(plan [][]int, kept []slot.Entry) bool {
	for _, k := range kept {
		if plan[k.Slot][k.Man] != k.Notice {
			return false
		}
	}
	return true
}

// cry is a notice, and a man who cries it.
type cry struct{ notice, man int }

func criesOf(share [][]int) []cry {
	var all []cry
	for n, men := range share {
		for _, man := range men {
			all = append(all, cry{n, man})
		}
	}
	return all
}

// atOnce returns all sets of cries that can be in one slot.
func atOnce(cries []cry) []int {
	sets := list(0)
	for i, c := range cries {
		for _, set := range slices.Clone(sets) {
			clash := false
			for j, d := range cries[:i] {
				clash = clash || set>>j&1 == 1 && (c.notice == d.notice || c.man == d.man)
			}
			if !clash {
				sets = append(sets, set|1<<i)
			}
		}
	}
	return sets
}

// canKeep reports whether there is a plan with so many slots that keeps entries. Slot by slot it finds out all sets of
// cries that can be laid so far.
func canKeep(share [][]int, slots int, kept []slot.Entry) bool {
	cries := criesOf(share)
	sets := atOnce(cries)
	must, all := make([]int, slots), 0
	for _, k := range kept {
		bit := 1 << slices.Index(cries, cry{k.Notice, k.Man})
		must[k.Slot] |= bit
		all |= bit
	}
	laid := make([]bool, 1<<len(cries))
	laid[0] = true
	for i := range slots {
		next := make([]bool, len(laid))
		for before, is := range laid {
			for _, set := range sets {
				if is && before&set == 0 && set&all == must[i] {
					next[before|set] = true
				}
			}
		}
		laid = next
	}
	return laid[len(laid)-1]
}

// slotsOf returns the least number of slots of a plan for a share.
func slotsOf(share [][]int) int {
	slots := 0
	for !canKeep(share, slots, nil) {
		slots++
	}
	return slots
}

// longestOf returns the greater one of a load and of the greatest Times.
func longestOf(r slot.Roll, load int) int {
	for _, n := range r.Notices {
		load = max(load, n.Times)
	}
	return load
}

// holdsOf returns the share for which a plan is right, or its error. All shares are tried.
func holdsOf(r slot.Roll, plan [][]int) ([][]int, api.Errno) {
	if len(plan) > slot.MaxSlots {
		return nil, api.ErrCount
	}
	var absent, twice bool
	for _, slots := range plan {
		if len(slots) != r.Men {
			return nil, api.ErrCount
		}
		for man, n := range slots {
			absent = absent || n < slot.None || n >= len(r.Notices)
			twice = twice || n != slot.None && slices.Contains(slots[:man], n)
		}
	}
	if absent {
		return nil, api.ErrAbsent
	}
	if twice {
		return nil, api.ErrTwice
	}
	for _, share := range allShares(r) {
		if isRight(r, share, plan) {
			return share, api.OK
		}
	}
	return nil, api.ErrFalse
}

// exchanged returns a plan in which the first slot that has a notice, and slot 0, are exchanged.
func exchanged(plan [][]int, n int) [][]int {
	for i, slots := range plan {
		if slices.Contains(slots, n) {
			plan = copied(plan)
			plan[0], plan[i] = plan[i], plan[0]
			return plan
		}
	}
	return nil
}

// mustsOf returns for each notice the men who cry it in each of the shares with the least load.
func mustsOf(r slot.Roll) [][]int {
	least := leastOf(r)
	musts := make([][]int, len(r.Notices))
	for i, n := range r.Notices {
		musts[i] = slices.Clone(n.Men)
	}
	for _, share := range allShares(r) {
		if slices.Max(loadsOf(r, share)) > least {
			continue
		}
		for i, men := range share {
			musts[i] = slices.DeleteFunc(musts[i], func(man int) bool { return !slices.Contains(men, man) })
		}
	}
	return musts
}

// spareOf returns the men without each of whom the least load stays.
func spareOf(r slot.Roll) []int {
	var spare []int
	for man := range r.Men {
		other := clone(r)
		for i, n := range other.Notices {
			other.Notices[i].Men = without(n.Men, man)
		}
		if leastOf(other) == leastOf(r) {
			spare = append(spare, man)
		}
	}
	return spare
}

// moreOf returns the greatest Times with which a notice makes the best plan no longer.
func moreOf(r slot.Roll, i int) int {
	most := 0
	for times := 1; times <= min(3, len(r.Notices[i].Men)); times++ {
		other := clone(r)
		other.Notices[i].Times = times
		if longestOf(other, leastOf(other)) <= longestOf(r, leastOf(r)) {
			most = times
		}
	}
	return most
}

// up returns a number from 0 to n, a greater one more often.
func up(r *rand.Rand, n int) int { return max(r.Intn(n+1), r.Intn(n+1)) }

// someOf returns so many of a list, in order.
func someOf(r *rand.Rand, l []int, many int) []int {
	var chosen []int
	for _, i := range r.Perm(len(l))[:many] {
		chosen = append(chosen, l[i])
	}
	slices.Sort(chosen)
	return chosen
}

// someRoll returns one with so many notices at most. If few men may cry a notice, some of them must.
func someRoll(r *rand.Rand, notices int) slot.Roll {
	x := roll(1 + up(r, slot.MaxMen-1))
	one, other, times := 1+r.Intn(x.Men), 1+r.Intn(x.Men), 1+up(r, slot.MaxTimes-1)
	few, many := min(one, other), max(one, other)
	for range up(r, notices) {
		men := someOf(r, numbers(x.Men), few+r.Intn(many-few+1))
		x.Notices = append(x.Notices, notice(1+up(r, min(times, len(men))-1), men...))
	}
	return x
}

// someShare returns one of a roll.
func someShare(r *rand.Rand, x slot.Roll) [][]int {
	share := make([][]int, len(x.Notices))
	for i, n := range x.Notices {
		share[i] = someOf(r, n.Men, n.Times)
	}
	return share
}

// somePlan returns one that is right for a share, with at most 8 slots, into which cries are laid at random.
func somePlan(r *rand.Rand, x slot.Roll, share [][]int) [][]int {
	slots := longestOf(x, slices.Max(loadsOf(x, share)))
	slots += r.Intn(slot.MaxSlots - slots + 1)
search:
	for {
		plan := slices.Repeat(lists(slices.Repeat(list(slot.None), x.Men)), slots)
		plan = copied(plan)
		for _, c := range criesOf(share) {
			var free []int
			for i := range plan {
				if plan[i][c.man] == slot.None && !slices.Contains(plan[i], c.notice) {
					free = append(free, i)
				}
			}
			if len(free) == 0 {
				continue search
			}
			plan[free[r.Intn(len(free))]][c.man] = c.notice
		}
		return plan
	}
}

// entriesOf returns those of a plan.
func entriesOf(plan [][]int) []slot.Entry {
	var all []slot.Entry
	for i, slots := range plan {
		for man, n := range slots {
			if n != slot.None {
				all = append(all, slot.Entry{Slot: i, Man: man, Notice: n})
			}
		}
	}
	return all
}

// someRolls calls a function with rolls of at most so many notices, always the same ones.
func someRolls(t *testing.T, n, notices int, check func(r *rand.Rand, x slot.Roll)) {
	t.Helper()
	r := rand.New(rand.NewSource(9))
	for range n {
		x := someRoll(r, notices)
		check(r, x)
		if t.Failed() {
			t.Fatalf("at the roll %+v", x)
		}
	}
}

// args are what a call is given; each call takes what it needs of them.
type args struct {
	r           slot.Roll
	share, plan [][]int
	men         []int
	notice      int
	slots       int
	kept        []slot.Entry
}

// good returns arguments with which each call is right, and has a result that is not zero. (The court can spare none.)
func good() args {
	return args{court(), courtShare(), courtPlan(), list(1, 0), 2, 3, entries(0, 2, 0, 1, 1, 3)}
}

func (x args) clone() args {
	x.r, x.share, x.plan = clone(x.r), copied(x.share), copied(x.plan)
	x.men, x.kept = slices.Clone(x.men), slices.Clone(x.kept)
	return x
}

// call is one of the functions, with its results beside the error.
type call struct {
	name string
	do   func(args) ([]any, api.Errno)
}

func one[T any](v T, e api.Errno) ([]any, api.Errno) { return []any{v}, e }

func two[S, T any](v S, x T, e api.Errno) ([]any, api.Errno) { return []any{v, x}, e }

func calls() []call {
	return []call{
		{"Check", func(x args) ([]any, api.Errno) { return nil, slot.Check(x.r) }},
		{"CheckShare", func(x args) ([]any, api.Errno) { return nil, slot.CheckShare(x.r, x.share) }},
		{"Loads", func(x args) ([]any, api.Errno) { return one(slot.Loads(x.r, x.share)) }},
		{"Least", func(x args) ([]any, api.Errno) { return two(slot.Least(x.r)) }},
		{"Need", func(x args) ([]any, api.Errno) { return one(slot.Need(x.r, x.men)) }},
		{"Tight", func(x args) ([]any, api.Errno) { return one(slot.Tight(x.r)) }},
		{"Slots", func(x args) ([]any, api.Errno) { return one(slot.Slots(x.r, x.share)) }},
		{"Busy", func(x args) ([]any, api.Errno) { return two(slot.Busy(x.r, x.share)) }},
		{"Plan", func(x args) ([]any, api.Errno) { return one(slot.Plan(x.r, x.share)) }},
		{"Holds", func(x args) ([]any, api.Errno) { return one(slot.Holds(x.r, x.plan)) }},
		{"Best", func(x args) ([]any, api.Errno) { return one(slot.Best(x.r)) }},
		{"First", func(x args) ([]any, api.Errno) { return one(slot.First(x.r, x.plan, x.notice)) }},
		{"Keeps", func(x args) ([]any, api.Errno) { return one(slot.Keeps(x.r, x.share, x.slots, x.kept)) }},
		{"Musts", func(x args) ([]any, api.Errno) { return one(slot.Musts(x.r)) }},
		{"Spare", func(x args) ([]any, api.Errno) { return one(slot.Spare(x.r)) }},
		{"More", func(x args) ([]any, api.Errno) { return one(slot.More(x.r, x.notice)) }},
	}
}

// zero reports whether all results are; a list without elements is zero, too.
func zero(results []any) bool {
	for _, r := range results {
		v := reflect.ValueOf(r)
		if !v.IsZero() && !(v.Kind() == reflect.Slice && v.Len() == 0) {
			return false
		}
	}
	return true
}
