package find

import "slices"

// blank is a trait of a found thing whose value is not known.
type blank struct{ found, trait int }

// blanks returns all of them, in order.
func (w *work) blanks() []blank {
	var blanks []blank
	for found, values := range w.Found {
		for trait, value := range values {
			if value == Unknown {
				blanks = append(blanks, blank{found, trait})
			}
		}
	}
	return blanks
}

// with returns a copy of a desk in which a blank has a value.
func (d Desk) with(b blank, value int) Desk {
	d.Weights, d.Rewards = slices.Clone(d.Weights), slices.Clone(d.Rewards)
	d.Lost, d.Found = copied(d.Lost), copied(d.Found)
	d.Found[b.found][b.trait] = value
	return d
}

func copied(lists [][]int) [][]int {
	all := make([][]int, len(lists))
	for i, l := range lists {
		all[i] = slices.Clone(l)
	}
	return all
}

// ask returns that of some blanks after which the fewest best joins are left, whatever its value is, and how many these are at most.
func (w *work) ask(blanks []blank) (blank, int) {
	best, fewest := blanks[0], w.leftAfter(blanks[0])
	for _, b := range blanks[1:] {
		if n := w.leftAfter(b); n < fewest {
			best, fewest = b, n
		}
	}
	return best, fewest
}

// leftAfter returns how many best joins there are at most if a blank has some value.
func (w *work) leftAfter(b blank) int {
	most := 0
	for value := range MaxValue + 1 {
		most = max(most, atWork(w.with(b, value)).count())
	}
	return most
}
