package hear_test

import (
	"fmt"
	"math"
	"reflect"
	"slices"
	"testing"

	"oyez/api"
	"oyez/hear"
)

// fault makes something in the arguments wrong.
type fault struct {
	e  api.Errno
	do func(*args)
}

func faultsOfTown() []fault {
	return []fault{
		{api.ErrCount, func(x *args) { x.t.Wide = 0 }},
		{api.ErrCount, func(x *args) { x.t.Wide = 5 }},
		{api.ErrCount, func(x *args) { x.t.Wide = 7 }},
		{api.ErrRange, func(x *args) { x.t.Plots[len(x.t.Plots)-1] = 3 }},
		{api.ErrRange, func(x *args) { x.t.Plots[0] = -1 }},
		{api.ErrCount, func(x *args) { x.t = town("hhhhhh", "hhhhhs") }},
	}
}

func faultsOfWind() []fault {
	return []fault{
		{api.ErrRange, func(x *args) { x.a.Wind = -1 }},
		{api.ErrRange, func(x *args) { x.a.Wind = 5 }},
	}
}

func faultsOfVoice() []fault {
	return []fault{
		{api.ErrRange, func(x *args) { x.a.Voice = 0 }},
		{api.ErrRange, func(x *args) { x.a.Voice = -1 }},
		{api.ErrRange, func(x *args) { x.a.Voice = 41 }},
	}
}

func faultsOfStand() []fault {
	return []fault{
		{api.ErrAbsent, func(x *args) { x.stand = -1 }},
		{api.ErrAbsent, func(x *args) { x.stand = 4 }},
		{api.ErrFalse, func(x *args) { x.stand = 1 }},
		{api.ErrFalse, func(x *args) { x.t, x.stand = town("whsh"), 0 }},
	}
}

func faultsOfHouse() []fault {
	return []fault{
		{api.ErrAbsent, func(x *args) { x.house = -1 }},
		{api.ErrAbsent, func(x *args) { x.house = 4 }},
		{api.ErrFalse, func(x *args) { x.house = 2 }},
		{api.ErrFalse, func(x *args) { x.t, x.house = town("shsw"), 3 }},
	}
}

func faultsOfPlot() []fault {
	return []fault{
		{api.ErrAbsent, func(x *args) { x.plot = -1 }},
		{api.ErrAbsent, func(x *args) { x.plot = 4 }},
		{api.ErrNone, func(x *args) { x.t, x.plot = town("shwh"), 3 }},
		{api.ErrNone, func(x *args) { x.t, x.plot = town("shwh"), 2 }},
	}
}

func faultsOfHouses() []fault {
	return []fault{
		{api.ErrAbsent, func(x *args) { x.houses = list(-1) }},
		{api.ErrAbsent, func(x *args) { x.houses = list(1, 4, 0, 1) }},
		{api.ErrFalse, func(x *args) { x.houses = list(2, 4) }},
		{api.ErrFalse, func(x *args) { x.houses = list(1, 0, 1) }},
		{api.ErrTwice, func(x *args) { x.houses = list(1, 3, 1, 4, 0) }},
	}
}

func faultDeaf() []fault {
	return []fault{{api.ErrNone, func(x *args) { x.t = town("shwh") }}}
}

func faultsOfStands() []fault {
	return []fault{
		{api.ErrRange, func(x *args) { x.stands = -1 }},
		{api.ErrRange, func(x *args) { x.stands = 31 }},
		{api.ErrRange, func(x *args) { x.stands = math.MaxInt }},
		{api.ErrRange, func(x *args) { x.stands = math.MinInt }},
	}
}

// faults returns what can be wrong in a call, in the order of the chapter's table of errors.
func faults(name string) []fault {
	wind := slices.Concat(faultsOfTown(), faultsOfWind())
	air := slices.Concat(wind, faultsOfVoice())
	switch name {
	case "Check":
		return faultsOfTown()
	case "Walled":
		return slices.Concat(faultsOfTown(), faultsOfStand())
	case "Need", "Way":
		return slices.Concat(wind, faultsOfStand(), faultsOfPlot())
	case "Needs":
		return slices.Concat(wind, faultsOfStand())
	case "Holds":
		short := fault{api.ErrCount, func(x *args) { x.table = list(0, 3, 5) }}
		long := fault{api.ErrCount, func(x *args) { x.table = list(0, 3, 5, 8, 0) }}
		return slices.Concat(wind, faultsOfStand(), []fault{short, long})
	case "Takes":
		none := fault{api.ErrCount, func(x *args) { x.way = nil }}
		house := fault{api.ErrFalse, func(x *args) { x.way = list(1, 0) }}
		return slices.Concat(wind, []fault{none, house})
	case "Houses":
		return slices.Concat(air, faultsOfStand())
	case "Stands":
		return slices.Concat(air, faultsOfHouse())
	case "Winds":
		return slices.Concat(faultsOfTown(), faultsOfVoice(), faultsOfStand(), faultsOfHouse())
	case "Deaf":
		return air
	case "Fewest", "Must":
		return slices.Concat(air, faultsOfHouses(), faultDeaf())
	case "Apart":
		return slices.Concat(air, faultsOfHouses())
	case "Best":
		return slices.Concat(air, faultsOfHouses(), faultsOfStands())
	default:
		return slices.Concat(wind, faultsOfHouses(), faultsOfStands(), faultDeaf())
	}
}

// expect checks the error of a call with faults of which the last one decides, and that there is no result beside it.
func expect(t *testing.T, c call, what string, faults ...fault) {
	t.Helper()
	x := good()
	for _, f := range faults {
		f.do(&x)
	}
	results, e := c.do(x)
	if want := faults[len(faults)-1].e; e != want || !zero(results) {
		t.Errorf("%s with %s: %v, error %d, want %d", c.name, what, results, e, want)
	}
}

func TestEachErrorAlone(t *testing.T) {
	for _, c := range calls() {
		if _, e := c.do(good()); e != api.OK {
			t.Errorf("%s of what is right: error %d", c.name, e)
		}
		for i, f := range faults(c.name) {
			expect(t, c, fmt.Sprint("fault ", i), f)
		}
	}
}

func TestOrderOfErrors(t *testing.T) {
	for _, c := range calls() {
		all := faults(c.name)
		for i := range all {
			for j := i + 1; j < len(all); j++ {
				expect(t, c, fmt.Sprintf("faults %d and %d", i, j), all[j], all[i])
			}
			later := slices.Clone(all[i:])
			slices.Reverse(later)
			expect(t, c, fmt.Sprintf("fault %d and all later ones", i), later...)
		}
	}
}

func TestHousesAreAskedOneByOne(t *testing.T) {
	for _, c := range calls()[11:] {
		for _, x := range []struct {
			houses []int
			e      api.Errno
		}{
			{list(3), api.OK},
			{list(1, 3), api.OK},
			{list(0, 4), api.ErrFalse},
			{list(4, 0), api.ErrAbsent},
			{list(1, 1, 4), api.ErrTwice},
			{list(1, 4, 1), api.ErrAbsent},
			{list(1, 0, 1), api.ErrFalse},
			{list(0, 0), api.ErrFalse},
			{list(3, 3, 0), api.ErrTwice},
			{list(math.MaxInt), api.ErrAbsent},
			{list(math.MinInt), api.ErrAbsent},
		} {
			y := good()
			y.houses = x.houses
			if results, e := c.do(y); e != x.e || e != api.OK && !zero(results) {
				t.Errorf("%s of %v: %v, error %d, want %d", c.name, x.houses, results, e, x.e)
			}
		}
	}
}

// odd returns arguments of all kinds, most of them wrong.
func odd(yield func(args)) {
	towns := []hear.Town{row(), court(), town("s"), town("h"), town("w"), {}, {Wide: 1}, {Wide: -1, Plots: make([]hear.Plot, 4)},
		{Wide: math.MaxInt, Plots: make([]hear.Plot, 4)}, {Wide: math.MinInt, Plots: make([]hear.Plot, 4)}, {Wide: 2, Plots: []hear.Plot{hear.House, math.MaxInt}}}
	numbers := list(math.MinInt, -1, 0, 1, 2, 5, 6, 30, 40, 41, math.MaxInt)
	for _, t := range towns {
		for _, a := range []hear.Air{air(hear.Calm, 5), air(hear.West, 40), air(math.MaxInt, 5), air(math.MinInt, 5), air(hear.East, math.MaxInt), air(hear.East, math.MinInt)} {
			for _, n := range numbers {
				for _, m := range numbers {
					yield(args{t, a, n, m, m, list(n, m), n, list(m, n), list(n, m, n, m)})
				}
			}
		}
	}
}

func TestNothingPanics(t *testing.T) {
	odd(func(x args) {
		for _, c := range calls() {
			if results, e := c.do(x); e != api.OK && !zero(results) {
				t.Errorf("%s of %v: %v beside error %d", c.name, x, results, e)
			}
		}
	})
}

func TestEmptyListsAreTheSame(t *testing.T) {
	for _, c := range calls() {
		x, y := good(), good()
		x.houses, x.way, x.table = nil, nil, nil
		y.houses, y.way, y.table = list(), list(), list()
		r, e := c.do(x)
		s, f := c.do(y)
		if e != f || fmt.Sprint(r) != fmt.Sprint(s) {
			t.Errorf("%s: %v, error %d; %v, error %d", c.name, r, e, s, f)
		}
	}
}

// spoil changes all memory that results have.
func spoil(results []any) {
	for _, r := range results {
		switch v := r.(type) {
		case []int:
			for i := range v {
				v[i] = -7
			}
		case []hear.Dir:
			for i := range v {
				v[i] = -7
			}
		case hear.Town:
			for i := range v.Plots {
				v.Plots[i] = -7
			}
		}
	}
}

func TestArgumentsStayAndResultsAreNew(t *testing.T) {
	for _, c := range calls() {
		x := good()
		// What lies behind the end of a list is not the function's, either.
		x.houses, x.way, x.table = append(x.houses, 77)[:2], append(x.way, 77)[:3], append(x.table, 77)[:4]
		before := x.clone()
		results, _ := c.do(x)
		told := fmt.Sprint(results)
		spoil(results)
		if x.houses[:3][2] != 77 || x.way[:4][3] != 77 || x.table[:5][4] != 77 {
			t.Errorf("%s wrote behind the end of a list: %v", c.name, x)
		}
		if !reflect.DeepEqual(x, before) {
			t.Errorf("%s changed its arguments, or gave them out: %v, were %v", c.name, x, before)
		}
		if results, _ := c.do(x); fmt.Sprint(results) != told {
			t.Errorf("%s: %v, and then %v", c.name, told, results)
		}
	}
}

func TestNothingIsKept(t *testing.T) {
	other := good()
	other.t, other.a, other.stand, other.houses = court(), air(hear.North, 2), 3, list(0, 2)
	for _, c := range calls() {
		r, e := c.do(good())
		for _, d := range calls() {
			d.do(other)
		}
		if s, f := c.do(good()); e != f || fmt.Sprint(r) != fmt.Sprint(s) {
			t.Errorf("%s: %v, error %d, and then %v, error %d", c.name, r, e, s, f)
		}
	}
}
