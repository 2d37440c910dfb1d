package fee_test

import (
	"math"
	"math/rand"
	"slices"
	"testing"

	"oyez/api"
	"oyez/fee"
)

// P8.6

func TestDivide(t *testing.T) {
	for i, x := range []struct {
		coins       int
		parts, want []int
		e           api.Errno
	}{
		{10, list(1, 1, 1), list(4, 3, 3), api.OK},
		{11, list(1, 1, 1), list(4, 4, 3), api.OK},
		{12, list(1, 1, 1), list(4, 4, 4), api.OK},
		{10, list(5, 3, 1), list(6, 3, 1), api.OK},
		{10, list(1, 3, 5), list(1, 3, 6), api.OK},
		{7, list(0, 2, 1, 2), list(0, 3, 1, 3), api.OK},
		{1, list(1, 2, 2), list(0, 1, 0), api.OK},
		{2, list(1, 2, 2), list(0, 1, 1), api.OK},
		{3, list(2, 3, 2, 3), list(1, 1, 0, 1), api.OK},
		{5, list(1, 1, 1, 1, 1, 1, 1, 1), list(1, 1, 1, 1, 1, 0, 0, 0), api.OK},
		{1, list(0, 0, 3), list(0, 0, 1), api.OK},
		{0, list(3, 4), list(0, 0), api.OK},
		{100000, list(100000), list(100000), api.OK},
		{100000, list(100000, 1), list(99999, 1), api.OK},
		{99999, list(100000, 1), list(99998, 1), api.OK},
		{49999, list(100000, 1), list(49999, 0), api.OK},
		{100000, slices.Repeat(list(100000), 8), slices.Repeat(list(12500), 8), api.OK},
		{99999, slices.Repeat(list(99999), 8), list(12500, 12500, 12500, 12500, 12500, 12500, 12500, 12499), api.OK},
		{9, nil, nil, api.ErrCount},
		{9, make([]int, 9), nil, api.ErrCount},
		{-1, nil, nil, api.ErrCount},
		{-1, slices.Repeat(list(-1), 9), nil, api.ErrCount},
		{-1, list(1), nil, api.ErrRange},
		{-1, list(0), nil, api.ErrRange},
		{100001, list(1), nil, api.ErrRange},
		{math.MaxInt, list(0, 0), nil, api.ErrRange},
		{math.MinInt, list(1), nil, api.ErrRange},
		{9, list(1, -1), nil, api.ErrRange},
		{9, list(0, 100001), nil, api.ErrRange},
		{9, list(math.MaxInt, 1), nil, api.ErrRange},
		{9, list(1, math.MinInt), nil, api.ErrRange},
		{9, list(0, 0), nil, api.ErrNone},
		{0, list(0), nil, api.ErrNone},
		{0, make([]int, 8), nil, api.ErrNone},
	} {
		if got, e := fee.Divide(x.coins, x.parts); !slices.Equal(got, x.want) || e != x.e {
			t.Error(i, got, e)
		}
	}
}

func TestDivideAnyBox(t *testing.T) {
	r := rand.New(rand.NewSource(86))
	more := 0
	for range 5000 {
		most := []int{2, 4, 9, fee.MaxCoins}[r.Intn(4)]
		coins, parts := r.Intn([]int{20, fee.MaxCoins}[r.Intn(2)]+1), make([]int, 1+r.Intn(fee.MaxPeople))
		for i := range parts {
			parts[i] = r.Intn(most + 1)
		}
		got, e := fee.Divide(coins, parts)
		if sum(parts...) == 0 {
			if len(got) > 0 || e != api.ErrNone {
				t.Error(coins, parts, got, e)
			}
			continue
		}
		if !isDivided(coins, parts, got) || e != api.OK {
			t.Error(coins, parts, got, e)
		}
		if coins%sum(parts...) != 0 {
			more++
		}
	}
	if more < 1000 {
		t.Error("too few coins that are left:", more)
	}
}

// P8.7

func TestGroupsAndClear(t *testing.T) {
	for i, x := range []struct {
		balances     []int
		groups, pays int
		e            api.Errno
	}{
		{list(5, -2, -3, 4, -4), 2, 3, api.OK},
		{nil, 0, 0, api.OK},
		{list(0), 0, 0, api.OK},
		{list(0, 0, 0, 0, 0, 0, 0, 0), 0, 0, api.OK},
		{list(1, 1, 1, -3), 1, 3, api.OK},
		{list(2, 0, -2), 1, 1, api.OK},
		{list(0, -2, 0, 0, 2, 0), 1, 1, api.OK},
		{list(3, 3, -2, -4), 1, 3, api.OK},
		{list(3, 4, -3, -4, 1, -1), 3, 3, api.OK},
		{list(1, 2, -3, 5, -1, -4), 2, 4, api.OK},
		{list(1, -1, 2, -2, 3, -3, 4, -4), 4, 4, api.OK},
		// the first pair that comes to 0 leaves fewer groups than others
		{list(5, -5, -2, -3, 2, 3), 3, 3, api.OK},
		{list(3, -1, -2, 5, -4, -1), 2, 4, api.OK},
		{list(1, 2, 3, 4, -10), 1, 4, api.OK},
		{list(100000, 100000, -100000, -100000), 2, 2, api.OK},
		{list(100000, 100000, 100000, 100000, -99999, -99999, -99999, -100000), 0, 0, api.ErrFalse},
		{list(99999, 99999, 99999, 100000, -99998, -99999, -100000, -100000), 3, 5, api.OK},
		{make([]int, 9), 0, 0, api.ErrCount},
		{slices.Repeat(list(100001), 9), 0, 0, api.ErrCount},
		{list(100001, -100001), 0, 0, api.ErrRange},
		{list(-100001, 1), 0, 0, api.ErrRange},
		{list(math.MinInt, math.MinInt), 0, 0, api.ErrRange},
		{list(math.MaxInt, -math.MaxInt), 0, 0, api.ErrRange},
		{list(1), 0, 0, api.ErrFalse},
		{list(1, 1), 0, 0, api.ErrFalse},
		{list(5, -2, -2), 0, 0, api.ErrFalse},
	} {
		groups, e := fee.Groups(x.balances)
		if len(groups) != x.groups || e != x.e || e == api.OK && !areGroups(x.balances, groups) {
			t.Error(i, groups, e)
		}
		payments, e := fee.Clear(x.balances)
		if len(payments) != x.pays || e != x.e || e == api.OK && !areCleared(x.balances, payments) {
			t.Error(i, payments, e)
		}
		if is, f := fee.Clears(x.balances, payments); is != (x.e == api.OK) || f != x.e {
			t.Error(i, payments, is, f)
		}
	}
}

func TestGroupsAndClearOfAnyBalances(t *testing.T) {
	var count [fee.MaxPeople/2 + 1]int
	someBalances(t, 1500, func(_ *rand.Rand, balances []int) {
		groups, e := fee.Groups(balances)
		many := mostGroups(balances)
		if len(groups) != many || !areGroups(balances, groups) || e != api.OK {
			t.Error(groups, many, e)
		}
		payments, e := fee.Clear(balances)
		if len(payments) != len(indebted(balances))-many || !areCleared(balances, payments) || e != api.OK {
			t.Error(payments, many, e)
		}
		count[many]++
	})
	if slices.Min(count[:]) < 30 {
		t.Error("too few balances of a kind:", count)
	}
}

// pays returns payments, told by who pays, to whom, and how many coins.
func pays(told ...int) []fee.Payment {
	var l []fee.Payment
	for i := 0; i < len(told); i += 3 {
		l = append(l, fee.Payment{From: told[i], To: told[i+1], Coins: told[i+2]})
	}
	return l
}

func TestClears(t *testing.T) {
	four := list(5, -2, -3, 0)
	for i, x := range []struct {
		balances []int
		payments []fee.Payment
		is       bool
		e        api.Errno
	}{
		{four, pays(1, 0, 2, 2, 0, 3), true, api.OK},
		{four, pays(2, 0, 3, 1, 0, 2), true, api.OK},
		{four, pays(1, 2, 2, 2, 0, 5), true, api.OK},
		{four, pays(1, 0, 1, 2, 0, 3, 1, 0, 1), true, api.OK},
		{four, pays(1, 0, 7, 0, 1, 5, 2, 0, 3), true, api.OK},
		{four, pays(1, 3, 2, 3, 0, 2, 2, 0, 3), true, api.OK},
		{four, pays(1, 0, 1000000, 0, 1, 999998, 2, 0, 3), true, api.OK},
		{four, nil, false, api.OK},
		{four, pays(1, 0, 2), false, api.OK},
		{four, pays(0, 1, 2, 0, 2, 3), false, api.OK},
		{four, pays(1, 0, 2, 2, 0, 4), false, api.OK},
		{four, pays(1, 0, 2, 2, 0, 3, 3, 0, 1), false, api.OK},
		{four, pays(1, 0, 2, 2, 0, 3, 1, 1, 1), false, api.OK},
		{four, pays(1, 0, 2, 2, 0, 3, 1, 0, 0), false, api.OK},
		{four, pays(1, 0, 2, 2, 0, 3, 0, 4, 1, 4, 0, 1), false, api.OK},
		{four, pays(1, 0, 2, 2, 0, 3, 0, -1, 1, -1, 0, 1), false, api.OK},
		{four, pays(0, 1, -2, 2, 0, 3), false, api.OK},
		{four, pays(1, 0, 1000001, 0, 1, 999999, 2, 0, 3), false, api.OK},
		{four, pays(1, 0, math.MaxInt, 0, 1, math.MaxInt, 1, 0, 2, 2, 0, 3), false, api.OK},
		{four, pays(1, 0, 2, 2, 0, 3, math.MinInt, math.MaxInt, math.MinInt), false, api.OK},
		{nil, nil, true, api.OK},
		{nil, pays(0, 1, 1, 1, 0, 1), false, api.OK},
		{list(0, 0), nil, true, api.OK},
		{list(0, 0), pays(0, 1, 1, 1, 0, 1), true, api.OK},
		{list(0, 0), pays(0, 1, 1), false, api.OK},
		{list(0), pays(0, 0, 1), false, api.OK},
		{list(1, -1), slices.Repeat(pays(1, 0, 1000000, 0, 1, 1000000), 1<<14), false, api.OK},
		{list(0, 0), slices.Repeat(pays(1, 0, 1000000, 0, 1, 1000000), 1<<14), true, api.OK},
		{make([]int, 9), nil, false, api.ErrCount},
		{list(100001, -100001), pays(1, 0, 100001), false, api.ErrRange},
		{list(1), nil, false, api.ErrFalse},
		{list(2, -1), pays(1, 0, 1), false, api.ErrFalse},
	} {
		if is, e := fee.Clears(x.balances, x.payments); is != x.is || e != x.e {
			t.Error(i, is, e)
		}
	}
}

func TestClearsOfAnyPayments(t *testing.T) {
	count := map[bool]int{}
	someBalances(t, 1500, func(r *rand.Rand, balances []int) {
		payments, _ := fee.Clear(balances)
		for range 4 {
			other := slices.Clone(payments)
			if len(balances) > 1 && r.Intn(2) == 0 {
				there := fee.Payment{From: r.Intn(len(balances)), To: r.Intn(len(balances)), Coins: 1 + r.Intn(9)}
				back := fee.Payment{From: there.To, To: there.From, Coins: there.Coins}
				other = append(other, there, back)
			}
			for range r.Intn(2) * len(other) {
				p := &other[r.Intn(len(other))]
				switch r.Intn(3) {
				case 0:
					p.From = r.Intn(len(balances)+2) - 1
				case 1:
					p.To = r.Intn(len(balances)+2) - 1
				default:
					p.Coins += r.Intn(3) - 1
				}
			}
			is, e := fee.Clears(balances, other)
			if is != areCleared(balances, other) || e != api.OK {
				t.Error(other, is, e)
			}
			count[is]++
		}
	})
	if min(count[true], count[false]) < 1000 {
		t.Error("too few payments of a kind:", count)
	}
}
