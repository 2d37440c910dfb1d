// Package hear is layer 1: see shared/doc/01-hear.md.
package hear

import (
	"slices"

	"oyez/api"
)

// The kinds of plots.
const (
	Street Plot = iota
	House
	Wall
)

// The winds.
const (
	Calm Dir = iota
	North
	East
	South
	West
)

// No way, and the limits of layer 1.
const (
	None      = -1
	MaxWide   = 6
	MaxPlots  = 30
	MaxHouses = 10
	MaxVoice  = 40
)

// Plot is the kind of one.
type Plot int

// Dir is a wind.
type Dir int

// Town has plots, row by row.
type Town struct {
	Wide  int
	Plots []Plot
}

// Air is a wind, and a voice.
type Air struct {
	Wind  Dir
	Voice int
}

// Check returns the error of a town.
func Check(t Town) api.Errno {
	plots := len(t.Plots)
	if t.Wide < 1 || t.Wide > MaxWide || plots < 1 || plots > MaxPlots || plots%t.Wide != 0 {
		return api.ErrCount
	}
	houses := 0
	e := firstError(t.Plots, func(p Plot) api.Errno {
		if p < Street || p > Wall {
			return api.ErrRange
		}
		if p == House {
			houses++
		}
		return api.OK
	})
	if e == api.OK && houses > MaxHouses {
		e = api.ErrCount
	}
	return e
}

// CheckAir returns the error of an air.
func CheckAir(a Air) api.Errno {
	if a.Wind < Calm || a.Wind > West || a.Voice < 1 || a.Voice > MaxVoice {
		return api.ErrRange
	}
	return api.OK
}

// Walled returns a town in which a street is a wall.
func Walled(t Town, plot int) (Town, api.Errno) {
	if e := Check(t); e != api.OK {
		return Town{}, e
	}
	if e := plotError(t, plot, Street); e != api.OK {
		return Town{}, e
	}
	plots := slices.Clone(t.Plots)
	plots[plot] = Wall
	return Town{Wide: t.Wide, Plots: plots}, api.OK
}

// Needs returns the loudness that a cry needs to each plot.
func Needs(t Town, wind Dir, stand int) ([]int, api.Errno) {
	w, e := openAt(t, windOnly(wind), stand, Street)
	if e != api.OK {
		return nil, e
	}
	return w.needs(stand), api.OK
}

// Need returns the loudness that a cry needs from a stand to a plot.
func Need(t Town, wind Dir, stand, plot int) (int, api.Errno) {
	table, e := Needs(t, wind, stand)
	if e != api.OK {
		return 0, e
	}
	if e := reachError(table, plot); e != api.OK {
		return 0, e
	}
	return table[plot], api.OK
}

// Holds reports whether a table holds.
func Holds(t Town, wind Dir, stand int, table []int) (bool, api.Errno) {
	w, e := openAt(t, windOnly(wind), stand, Street)
	if e != api.OK {
		return false, e
	}
	if len(table) != len(t.Plots) {
		return false, api.ErrCount
	}
	return table[stand] == 0 && w.agrees(table), api.OK
}

// Way returns a way from a stand to a plot that needs as little as any.
func Way(t Town, wind Dir, stand, plot int) ([]int, api.Errno) {
	w, e := openAt(t, windOnly(wind), stand, Street)
	if e != api.OK {
		return nil, e
	}
	table := w.needs(stand)
	if e := reachError(table, plot); e != api.OK {
		return nil, e
	}
	return w.way(table, stand, plot), api.OK
}

// Takes returns the loudness that a way needs.
func Takes(t Town, wind Dir, way []int) (int, api.Errno) {
	w, e := open(t, windOnly(wind))
	if e != api.OK {
		return 0, e
	}
	if len(way) == 0 {
		return 0, api.ErrCount
	}
	return w.takes(way)
}

// Houses returns the houses that hear a stand.
func Houses(t Town, a Air, stand int) ([]int, api.Errno) {
	w, e := openAt(t, a, stand, Street)
	if e != api.OK {
		return nil, e
	}
	table := w.needs(stand)
	var houses []int
	for p := range len(t.Plots) {
		if t.Plots[p] == House && w.enough(table[p]) {
			houses = append(houses, p)
		}
	}
	return houses, api.OK
}

// Stands returns the stands that a house hears.
func Stands(t Town, a Air, house int) ([]int, api.Errno) {
	w, e := openAt(t, a, house, House)
	if e != api.OK {
		return nil, e
	}
	var stands []int
	for stand, hears := range w.hears(w.tables(), house) {
		if hears {
			stands = append(stands, stand)
		}
	}
	return stands, api.OK
}

// Winds returns the winds in which a house hears a stand.
func Winds(t Town, voice, stand, house int) ([]Dir, api.Errno) {
	w, e := openAt(t, Air{Wind: Calm, Voice: voice}, stand, Street)
	if e != api.OK {
		return nil, e
	}
	if e := plotError(t, house, House); e != api.OK {
		return nil, e
	}
	var winds []Dir
	for wind := Calm; wind <= West; wind++ {
		w.Wind = wind
		if w.enough(w.needs(stand)[house]) {
			winds = append(winds, wind)
		}
	}
	return winds, api.OK
}

// Deaf returns the houses that hear no stand.
func Deaf(t Town, a Air) ([]int, api.Errno) {
	w, e := open(t, a)
	if e != api.OK {
		return nil, e
	}
	var deaf []int
	for _, l := range w.listeners(w.tables()) {
		if l.deaf() {
			deaf = append(deaf, l.house)
		}
	}
	return deaf, api.OK
}

// Fewest returns the fewest stands that serve houses.
func Fewest(t Town, a Air, houses []int) ([]int, api.Errno) {
	list, e := hearers(t, a, houses)
	if e != api.OK {
		return nil, e
	}
	stands, _ := choose(list, MaxPlots)
	return stands, api.OK
}

// Must returns the stands without which the others do not serve houses.
func Must(t Town, a Air, houses []int) ([]int, api.Errno) {
	list, e := hearers(t, a, houses)
	if e != api.OK {
		return nil, e
	}
	var must []int
	for stand := range len(t.Plots) {
		if slices.ContainsFunc(list, onlyHears(stand)) {
			must = append(must, stand)
		}
	}
	return must, api.OK
}

// Apart returns as many houses as can be no two of which hear the same stand.
func Apart(t Town, a Air, houses []int) ([]int, api.Errno) {
	w, e := openQuarter(t, a, houses)
	if e != api.OK {
		return nil, e
	}
	return apart(w.listeners(w.tables())), api.OK
}

// Best returns at most so many stands that as many houses as can be hear, and how many these are.
func Best(t Town, a Air, houses []int, stands int) ([]int, int, api.Errno) {
	w, e := openQuarter(t, a, houses)
	if e != api.OK {
		return nil, 0, e
	}
	if stands < 0 || stands > MaxPlots {
		return nil, 0, api.ErrRange
	}
	list, served := choose(w.listeners(w.tables()), stands)
	return list, served, api.OK
}

// Louder returns the least voice with which so many stands serve houses.
func Louder(t Town, wind Dir, houses []int, stands int) (int, api.Errno) {
	w, e := openQuarter(t, windOnly(wind), houses)
	if e != api.OK {
		return 0, e
	}
	if stands < 0 || stands > MaxPlots {
		return 0, api.ErrRange
	}
	voice := w.leastVoice(stands)
	if voice == None {
		return 0, api.ErrNone
	}
	return voice, api.OK
}
