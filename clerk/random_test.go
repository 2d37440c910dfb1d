package clerk_test

import (
	"fmt"
	"math/rand"
	"slices"
	"strings"
)

// towns are those in which random lines play.
func towns() []string {
	return []string{
		"town shsh", "town sh", "town h", "town hsh shs", "town shhs hssh", "town hsh sws", "town shshsh wswsws hshshs",
		"town s h s h s h", "town hhhhh sssss hhhhh", "town hs sh hs sh hs sh hs sh hs sh",
	}
}

// one returns one of several.
func one[T any](r *rand.Rand, l ...T) T { return l[r.Intn(len(l))] }

// near returns a number that is mostly from 0 to another one.
func near(r *rand.Rand, most int) string {
	if r.Intn(12) == 0 {
		return one(r, fmt.Sprint(most+1), fmt.Sprint(most+2), "999999")
	}
	return fmt.Sprint(r.Intn(most + 1))
}

// list returns so many of them at most, one at least.
func list(r *rand.Rand, many int, of func() string) string {
	var l []string
	for range 1 + r.Intn(many) {
		l = append(l, of())
	}
	return strings.Join(l, " ")
}

// rising returns some numbers, mostly in increasing order.
func rising(r *rand.Rand, most int) string {
	var l []string
	for n := range most + 1 {
		if r.Intn(2) == 0 || n == most && l == nil {
			l = append(l, fmt.Sprint(n))
		}
	}
	if r.Intn(12) == 0 {
		l = append(l, near(r, most))
	}
	return strings.Join(l, " ")
}

// word returns one of a notice.
func word(r *rand.Rand) string {
	w := one(r, "not", "not", "not", "a", "shut", "open", "bridge", "harbour", "yeoman", "tide", "gate", "aeiouaeio", "eerie", "brrr")
	if r.Intn(30) == 0 {
		w = one(r, "strengthlessnesses", "bcdfghjklmnpqrstvwxz", "bcdfghjklmnpqrstvwxzb", "aeiouyaeio")
	}
	if r.Intn(3) == 0 {
		w += ","
	}
	return w
}

// piece is lines of one kind: how often they come, and how one is made.
type piece struct {
	often int
	line  func() string
}

// pieces are what random lines are made of.
func pieces(r *rand.Rand, d done) []piece {
	things := len(d.of("notice", "back"))
	after := func() string {
		if r.Intn(3) == 0 {
			return "none"
		}
		return near(r, max(0, things-1))
	}
	value := func() string { return one(r, "0", "1", "1", "x", "x", near(r, 5)) }
	traits := 1
	if l := d.since("traits"); l != nil {
		traits = len(l.of("traits")[0]) - 1
	}
	values := func() string {
		l := make([]string, traits)
		for n := range l {
			l[n] = value()
		}
		return strings.Join(l, " ")
	}
	houses := 1
	if d.hasTown() {
		houses = len(d.houses())
	}
	criers := max(1, d.roll().Men)
	return []piece{
		{1, func() string { return one(r, towns()...) }},
		{4, func() string { return "air " + near(r, 4) + " " + near(r, 12) }},
		{6, func() string { return "link " + near(r, houses-1) + " " + near(r, houses-1) }},
		{4, func() string { return "stand " + near(r, 7) }},
		{5, func() string { return "notice " + after() + " " + list(r, 7, func() string { return word(r) }) }},
		{3, func() string { return "back " + after() + " " + list(r, 7, func() string { return word(r) }) }},
		{6, func() string { return "cry " + near(r, max(0, things-1)) + " " + near(r, max(0, len(d.of("stand"))-1)) }},
		{2, func() string {
			return "criers " + near(r, 4) + " " + near(r, 20) + " " + near(r, 20) + " " + near(r, 20)
		}},
		{5, func() string {
			return "round " + near(r, max(0, things-1)) + " " + near(r, 5) + " " + rising(r, criers-1)
		}},
		{3, func() string {
			l := make([]string, criers)
			for n := range l {
				l[n] = near(r, one(r, 3, 60))
			}
			return "pay " + strings.Join(l, " ")
		}},
		{5, func() string { return "duty " + near(r, 3) + " " + rising(r, criers-1) }},
		{2, func() string {
			return "traits " + near(r, 3) + " " + list(r, 5, func() string { return one(r, "1", "2", near(r, 9)) })
		}},
		{5, func() string { return "lost " + near(r, 99) + " " + values() }},
		{5, func() string { return "found " + values() }},
		{2, func() string { return "hand" }},
		{3, func() string { return "left " + near(r, 4) }},
		{3, func() string { return "holds " + near(r, 12) + " " + near(r, houses-1) }},
		{3, func() string { return "mend " + near(r, 2) + " " + rising(r, max(0, len(d.of("stand"))-1)) }},
		{2, func() string { return "joins" }},
		{2, func() string { return "load" }},
		{1, func() string { return "paid" }},
		{1, func() string { return "seal" }},
	}
}

// themes are the verbs that are played together: all, those of the news, of money, and of finds.
func themes() []string {
	return []string{
		"",
		"air link stand notice back cry left holds mend",
		"notice criers round pay duty load paid",
		"traits lost found hand joins",
	}
}

// random returns a line of a theme that could be the next one.
func random(r *rand.Rand, d done, theme string) string {
	if !d.hasTown() && r.Intn(10) > 0 {
		return one(r, towns()...)
	}
	var l []piece
	for _, p := range pieces(r, d) {
		for range p.often {
			l = append(l, p)
		}
	}
	line := one(r, l...).line()
	for verb, _ := cut(line); !strings.Contains(theme, verb) && theme != "" && r.Intn(50) > 0; verb, _ = cut(line) {
		line = one(r, l...).line()
	}
	if r.Intn(15) == 0 {
		return spoilt(r, line)
	}
	return line
}

// spoilt returns a line that is mostly of no right form.
func spoilt(r *rand.Rand, line string) string {
	l := strings.Split(line, " ")
	at := r.Intn(len(l))
	switch r.Intn(6) {
	case 0:
		return strings.Join(slices.Delete(l, at, at+1), " ")
	case 1:
		return strings.Join(slices.Insert(l, at, ""), " ")
	case 2:
		return line + " " + one(r, "0", "a", "x", "none", "s", "", strings.Repeat("a", 80))
	case 3:
		l[at] = one(r, "01", "1000000", "-1", "+1", "A", "a1", ",", "a,,", "x", "none", "s", "town", "\n", "é", "\xff", "a\tb", "1.0", "0x1")
		return strings.Join(l, " ")
	case 4:
		return one(r, "", " ", "Town h", "sing", "to wn", "towns h", "air, 0 1", "paid ", " seal")
	}
	b := []byte(line)
	b[r.Intn(len(b))] = byte(r.Intn(256))
	return string(b)
}
