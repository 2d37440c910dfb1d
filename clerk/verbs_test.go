package clerk_test

import (
	"fmt"
	"slices"
	"strings"
	"testing"

	"oyez/api"
	"oyez/clerk"
	"oyez/fee"
	"oyez/find"
	"oyez/hear"
	"oyez/news"
	"oyez/slot"
	"oyez/text"
)

// P12.1: what each line does, up to what is the most of it. Each list of steps begins with a clerk of its own.

// many returns so many lines.
func many(n int, line func(n int) string) []string {
	var l []string
	for i := range n {
		l = append(l, line(i))
	}
	return l
}

// again returns a line so many times.
func again(n int, line string) []string { return slices.Repeat([]string{line}, n) }

// row is a town of ten houses and one street.
func row() string { return "town hhhhhh hhhhss" }

// ring returns links between ten houses, each with the next one, and five more.
func ring() []string {
	return append(many(10, func(n int) string { return fmt.Sprint("link ", n, " ", (n+1)%10) }),
		many(5, func(n int) string { return fmt.Sprint("link ", n, " ", n+5) })...)
}

func TestTown(t *testing.T) {
	for i, x := range []struct {
		line  string
		reply string
		e     api.Errno
		town  hear.Town
	}{
		{"town h", "1", api.OK, hear.Town{Wide: 1, Plots: []hear.Plot{hear.House}}},
		{"town shw", "1", api.OK, hear.Town{Wide: 3, Plots: []hear.Plot{hear.Street, hear.House, hear.Wall}}},
		{"town hs wh", "2", api.OK, hear.Town{Wide: 2, Plots: []hear.Plot{hear.House, hear.Street, hear.Wall, hear.House}}},
		{"town h s", "1", api.OK, hear.Town{Wide: 1, Plots: []hear.Plot{hear.House, hear.Street}}},
		{"town hhhhhh hhhhss ssssss ssssss wwwwww", "10", api.OK, townOf(strings.Fields("hhhhhh hhhhss ssssss ssssss wwwwww"))},
		{"town" + strings.Repeat(" s", 29) + " h", "1", api.OK, townOf(strings.Fields(strings.Repeat(" s", 29) + " h"))},
		{"town" + strings.Repeat(" s", 30) + " h", "", api.ErrCount, hear.Town{}},
		{"town hhhhhh hhhhhs", "", api.ErrCount, hear.Town{}},
		{"town hssssss", "", api.ErrCount, hear.Town{}},
		{"town hh h", "", api.ErrFalse, hear.Town{}},
		{"town h hh", "", api.ErrFalse, hear.Town{}},
		{"town hh hh h", "", api.ErrFalse, hear.Town{}},
		{"town hhhhhhhh h", "", api.ErrFalse, hear.Town{}},
		{"town ss s", "", api.ErrFalse, hear.Town{}},
		{"town s", "", api.ErrNone, hear.Town{}},
		{"town sw ws", "", api.ErrNone, hear.Town{}},
		{"town sssssss", "", api.ErrCount, hear.Town{}},
	} {
		c := clerk.New()
		check(t, c, x.line, x.reply, x.e)
		town, air, e := c.Town()
		if x.e != api.OK {
			if fmt.Sprint(town, air) != fmt.Sprint(hear.Town{}, hear.Air{}) || e != api.ErrAbsent || len(c.Journal()) > 0 {
				t.Error(i, town, air, e)
			}
			continue
		}
		if fmt.Sprint(town) != fmt.Sprint(x.town) || air != (hear.Air{Wind: hear.Calm, Voice: 5}) || e != api.OK {
			t.Error(i, town, air, e)
		}
		check(t, c, "town h", "", api.ErrTwice)
		check(t, c, "town s", "", api.ErrTwice)
		check(t, c, "town h hh", "", api.ErrTwice)
	}
}

func TestAir(t *testing.T) {
	for wind := range 7 {
		for _, voice := range []int{0, 1, 5, 40, 41, 999999} {
			c := with(t, "town hs", "air 3 7")
			want, reply, e := hear.Air{Wind: hear.Dir(wind), Voice: voice}, "ok", api.OK
			if wind > 4 || voice < 1 || voice > 40 {
				want, reply, e = hear.Air{Wind: hear.South, Voice: 7}, "", api.ErrRange
			}
			check(t, c, fmt.Sprint("air ", wind, " ", voice), reply, e)
			if _, air, e := c.Town(); air != want || e != api.OK {
				t.Error(wind, voice, air, e)
			}
		}
	}
}

func TestLinks(t *testing.T) {
	c := with(t, row())
	for n, line := range ring() {
		check(t, c, line, "ok", api.OK)
		if n < 14 {
			l := strings.Fields(line)
			check(t, c, line, "", api.ErrTwice)
			check(t, c, "link "+l[2]+" "+l[1], "", api.ErrTwice)
			check(t, c, "link 10 0", "", api.ErrAbsent)
			check(t, c, "link 0 10", "", api.ErrAbsent)
			check(t, c, "link 10 10", "", api.ErrAbsent)
			check(t, c, "link 9 9", "", api.ErrFalse)
		}
	}
	for _, line := range []string{"link 0 2", "link 0 1", "link 10 0", "link 1 1"} {
		check(t, c, line, "", api.ErrCount)
	}
	n, _, e := c.News()
	want := [][2]int{{0, 1}, {1, 2}, {2, 3}, {3, 4}, {4, 5}, {5, 6}, {6, 7}, {7, 8}, {8, 9}, {9, 0}, {0, 5}, {1, 6}, {2, 7}, {3, 8}, {4, 9}}
	if !slices.Equal(n.Links, want) || n.Houses != 10 || e != api.OK {
		t.Error(n, e)
	}
}

func TestStands(t *testing.T) {
	c := with(t, "town shsh", "air 0 5")
	play(t, c,
		step{"stand 0", "0 0", api.OK}, step{"stand 2", "1 0 1", api.OK}, step{"stand 1", "", api.ErrFalse}, step{"stand 4", "", api.ErrAbsent},
		step{"air 0 2", "ok", api.OK}, step{"stand 2", "2", api.OK}, step{"air 2 2", "ok", api.OK}, step{"stand 2", "3 1", api.OK},
		step{"air 4 2", "ok", api.OK}, step{"stand 2", "4 0", api.OK}, step{"air 0 40", "ok", api.OK}, step{"stand 0", "5 0 1", api.OK},
		step{"stand 0", "", api.ErrCount}, step{"stand 1", "", api.ErrCount}, step{"stand 9", "", api.ErrCount},
	)
	n, _, e := c.News()
	if fmt.Sprint(n.Stands) != "[[0] [0 1] [] [1] [0] [0 1]]" || e != api.OK {
		t.Error(n, e)
	}
	// a wall is no street, and houses are numbered in the order of their plots
	c = with(t, "town hsw hhs")
	play(t, c, step{"stand 2", "", api.ErrFalse}, step{"stand 1", "0 0 2", api.OK}, step{"stand 5", "1 2", api.OK}, step{"stand 6", "", api.ErrAbsent})
}

func TestNotices(t *testing.T) {
	c := with(t, "town sh")
	for n := range 8 {
		line := "notice none a"
		if n%3 > 0 {
			line = fmt.Sprint("back ", n-1, " a, b")
		}
		check(t, c, fmt.Sprint("notice ", n, " a"), "", api.ErrAbsent)
		check(t, c, fmt.Sprint("back ", n, " aeiouaeiouaeiou"), "", api.ErrAbsent)
		check(t, c, line, fmt.Sprint(n, " ", 1), api.OK)
		if n%3 > 0 && n < 7 {
			check(t, c, fmt.Sprint("notice ", n-1, " a"), "", api.ErrTwice)
			check(t, c, fmt.Sprint("back ", n-1, " aeiouaeiouaeiou"), "", api.ErrTwice)
		}
	}
	for _, line := range []string{"notice none a", "back 7 a", "notice 8 a", "notice 0 a", "notice none aeiouaeiouaeiou"} {
		check(t, c, line, "", api.ErrCount)
	}
	n, _, e := c.News()
	want := []news.Notice{{After: -1}, {After: 0, Back: true}, {After: 1, Back: true}, {After: -1}, {After: 3, Back: true}, {After: 4, Back: true}, {After: -1}, {After: 6, Back: true}}
	if !slices.Equal(n.Notices, want) || e != api.OK {
		t.Error(n, e)
	}
	// none can be followed by several chains
	play(t, with(t, "town sh"), step{"back none a", "0 1", api.OK}, step{"notice none a", "1 1", api.OK}, step{"notice 1 a", "2 1", api.OK}, step{"notice 0 a", "3 1", api.OK})
}

func TestTexts(t *testing.T) {
	word := func(syllables, weight int, stop bool) text.Word {
		return text.Word{Syllables: syllables, Weight: weight, Stop: stop}
	}
	turn := func(n int) text.Turn { return text.Turn{Word: n, Core: api.Span{Lo: n + 1, Hi: n + 1}} }
	for _, x := range []struct {
		words   string
		breaths int
		e       api.Errno
		list    []text.Word
		turns   []text.Turn
	}{
		{"a", 1, api.OK, []text.Word{word(1, 1, false)}, nil},
		{"the bridge is shut", 1, api.OK, []text.Word{word(1, 3, false), word(2, 6, false), word(1, 2, false), word(1, 4, false)}, nil},
		{"it is not shut, but open", 1, api.OK, []text.Word{word(1, 2, false), word(1, 2, false), word(1, 3, false), word(1, 4, true), word(1, 3, false), word(2, 4, false)}, []text.Turn{turn(2)}},
		{"brr aeiou y yy", 0, api.ErrNone, nil, nil},
		{"brr aeiou y y", 1, api.OK, []text.Word{word(1, 3, false), word(5, 5, false), word(1, 1, false), word(1, 1, false)}, nil},
		{"brr, aeiou, yyyy", 2, api.OK, []text.Word{word(1, 3, true), word(5, 5, true), word(4, 4, false)}, nil},
		{"aeiouyae, aeiouyae, aeiouyae,", 3, api.OK, []text.Word{word(8, 8, true), word(8, 8, true), word(8, 8, true)}, nil},
		{"aeiouyaei", 0, api.ErrNone, nil, nil},
		{"aeiouyaeio", 0, api.ErrRange, nil, nil},
		{"bcdfghjklmnpqrstvwxz", 1, api.OK, []text.Word{word(1, 20, false)}, nil},
		{"bcdfghjklmnpqrstvwxzb,", 1, api.OK, []text.Word{word(1, 20, true)}, nil},
		{"not", 1, api.OK, []text.Word{word(1, 3, false)}, nil},
		{"not, not", 1, api.OK, []text.Word{word(1, 3, true), word(1, 3, false)}, nil},
		{"not open", 1, api.OK, []text.Word{word(1, 3, false), word(2, 4, false)}, []text.Turn{turn(0)}},
		{"not open,", 1, api.OK, []text.Word{word(1, 3, false), word(2, 4, true)}, []text.Turn{turn(0)}},
		{"not, open", 1, api.OK, []text.Word{word(1, 3, true), word(2, 4, false)}, nil},
		{"open not", 1, api.OK, []text.Word{word(2, 4, false), word(1, 3, false)}, nil},
		{"open not,", 1, api.OK, []text.Word{word(2, 4, false), word(1, 3, true)}, nil},
		{"not not not, not", 1, api.OK, []text.Word{word(1, 3, false), word(1, 3, false), word(1, 3, true), word(1, 3, false)}, []text.Turn{turn(0), turn(1)}},
		{"knot nota nott", 1, api.OK, []text.Word{word(1, 4, false), word(2, 4, false), word(1, 4, false)}, nil},
		{"not not not not not not a", 1, api.OK, slices.Concat(slices.Repeat([]text.Word{word(1, 3, false)}, 6), []text.Word{word(1, 1, false)}), []text.Turn{turn(0), turn(1), turn(2), turn(3), turn(4), turn(5)}},
		{"not not not not not not not a", 0, api.ErrCount, nil, nil},
		{"a, b c d e f g h, i j k l", 2, api.OK, slices.Concat([]text.Word{word(1, 1, true)}, slices.Repeat([]text.Word{word(1, 1, false)}, 6), []text.Word{word(1, 1, true)}, slices.Repeat([]text.Word{word(1, 1, false)}, 4)), nil},
		{"a, b c d e f g h, i j k l m", 0, api.ErrCount, nil, nil},
		{"a b c d e f g h i j k l m n o p q r s t u aeiouyaeio", 0, api.ErrCount, nil, nil},
	} {
		for _, verb := range []string{"notice", "back"} {
			c := with(t, "town sh", "notice none z")
			if x.e != api.OK {
				check(t, c, verb+" 0 "+x.words, "", x.e)
				if got, e := c.Text(1); e != api.ErrAbsent || len(got.Words) > 0 {
					t.Error(x.words, got, e)
				}
				continue
			}
			check(t, c, verb+" 0 "+x.words, fmt.Sprint("1 ", x.breaths), api.OK)
			got, e := c.Text(1)
			if !slices.Equal(got.Words, x.list) || !slices.Equal(got.Turns, x.turns) || got.Breath != 8 || e != api.OK {
				t.Error(x.words, got, e)
			}
			if e := text.Check(got); e != api.OK {
				t.Error(x.words, e)
			}
		}
	}
}

func TestCries(t *testing.T) {
	c := with(t, "town shsh", "stand 0", "notice none a", "notice 0 b", "stand 2", "stand 0")
	for n := range 16 {
		check(t, c, fmt.Sprint("cry ", n%2, " ", n%3), "ok", api.OK)
		if n < 15 {
			check(t, c, "cry 2 0", "", api.ErrAbsent)
			check(t, c, "cry 0 3", "", api.ErrAbsent)
		}
	}
	for _, line := range []string{"cry 0 0", "cry 2 0", "cry 0 3"} {
		check(t, c, line, "", api.ErrCount)
	}
	_, cries, e := c.News()
	for n, x := range cries {
		if x != (news.Cry{Notice: n % 2, Stand: n % 3}) {
			t.Error(n, x)
		}
	}
	if len(cries) != 16 || e != api.OK {
		t.Error(cries, e)
	}
}

func TestCriers(t *testing.T) {
	for i, x := range []struct {
		line string
		e    api.Errno
	}{
		{"criers 1 0 0 0", api.OK}, {"criers 4 20 20 20", api.OK}, {"criers 0 1 1 1", api.ErrCount}, {"criers 5 1 1 1", api.ErrCount},
		{"criers 5 21 1 1", api.ErrCount}, {"criers 1 21 1 1", api.ErrRange}, {"criers 1 1 21 1", api.ErrRange}, {"criers 1 1 1 21", api.ErrRange},
	} {
		c := with(t, "town sh", "notice none a", "criers 2 5 5 5", "round 0 1 0 1", "duty 1 1", "duty 1 0 1")
		check(t, c, x.line, "", api.ErrClash)
		check(t, c, "pay 0 1", "10 0 0", api.OK)
		if x.e != api.OK {
			check(t, c, x.line, "", x.e)
			check(t, c, "paid", "10 0", api.OK)
			check(t, c, "load", "1 1 1", api.OK)
			continue
		}
		check(t, c, x.line, "ok", api.OK)
		l := ints(strings.Fields(x.line)[1:])
		if b, e := c.Box(); fmt.Sprint(b) != fmt.Sprint(fee.Box{Criers: l[0], Word: l[1], Stand: l[2], Fine: l[3]}) || e != api.OK {
			t.Error(i, b, e)
		}
		if r, e := c.Roll(); fmt.Sprint(r) != fmt.Sprint(slot.Roll{Men: l[0]}) || e != api.OK {
			t.Error(i, r, e)
		}
		if paid := c.Paid(); !slices.Equal(paid, make([]int, l[0])) {
			t.Error(i, paid)
		}
	}
}

func TestRounds(t *testing.T) {
	c := with(t, "town sh", "notice none a b c d e f g h", "notice none a b c, d e f g h i", "notice none a b c, d e f g h i j", "criers 3 2 7 1")
	play(t, c,
		step{"round 0 1 0", "23", api.OK}, step{"round 1 5 0 1 2", "125", api.OK},
		step{"round 2 1 0", "", api.ErrRange}, step{"round 0 0 0", "", api.ErrRange}, step{"round 0 6 0", "", api.ErrRange},
		step{"round 3 1 0", "", api.ErrAbsent}, step{"round 0 1 3", "", api.ErrAbsent}, step{"round 0 1 1 0", "", api.ErrOrder}, step{"round 0 1 1 1", "", api.ErrOrder},
		step{"round 1 2 2", "50", api.OK}, step{"round 0 1 0", "23", api.OK}, step{"round 0 1 0", "23", api.OK}, step{"round 0 1 0", "23", api.OK}, step{"round 0 1 0", "23", api.OK},
		step{"round 0 1 0", "", api.ErrCount}, step{"round 2 6 7", "", api.ErrCount}, step{"round 3 1 0", "", api.ErrAbsent},
	)
	b, e := c.Box()
	if len(b.Rounds) != 7 || b.Rounds[1].Words != 9 || b.Rounds[1].Stands != 5 || !slices.Equal(b.Rounds[1].May, []int{0, 1, 2}) || e != api.OK {
		t.Error(b, e)
	}
	play(t, with(t, "town sh", "notice none a"), step{"round 0 1 0", "", api.ErrAbsent}, step{"round 9 1 0", "", api.ErrAbsent})
}

func TestPay(t *testing.T) {
	c := with(t, "town sh", "notice none a b c d", "notice none a b c", "notice none a b c d e f g h", "notice none a", "criers 2 1 2 2")
	play(t, c,
		// the box of chapter 8, with the fees 12, 5, 10 and 3
		step{"pay 0 0", "", api.ErrNone}, step{"round 0 2 0 1", "12", api.OK}, step{"round 1 1 0 1", "5", api.OK}, step{"round 2 1 0 1", "10", api.OK}, step{"round 3 1 1", "3", api.OK},
		step{"pay 0", "", api.ErrCount}, step{"pay 0 0 0", "", api.ErrCount}, step{"pay 61 0 0", "", api.ErrCount}, step{"pay 61 0", "", api.ErrRange}, step{"pay 0 61", "", api.ErrRange},
		step{"paid", "0 0", api.OK}, step{"pay 4 10", "7 0 23", api.OK}, step{"paid", "7 0", api.OK}, step{"pay 4 10", "", api.ErrNone}, step{"pay 0", "", api.ErrNone},
		step{"round 3 1 1", "3", api.OK}, step{"pay 60 1", "0 1 2", api.OK}, step{"paid", "7 1", api.OK},
		step{"round 0 2 0", "12", api.OK}, step{"round 0 5 0", "30", api.OK}, step{"pay 0 60", "42 0 0", api.OK}, step{"paid", "49 1", api.OK},
		step{"criers 3 1 2 2", "ok", api.OK}, step{"paid", "0 0 0", api.OK}, step{"pay 0 0 0", "", api.ErrNone},
	)
	if b, e := c.Box(); len(b.Rounds) > 0 || e != api.OK {
		t.Error(b, e)
	}
	play(t, with(t, "town sh"), step{"pay 0", "", api.ErrNone}, step{"paid", "", api.OK})
}

func TestDuties(t *testing.T) {
	c := with(t, "town sh", "criers 4 0 0 0")
	play(t, c,
		step{"load", "", api.ErrNone}, step{"duty 0 0", "", api.ErrRange}, step{"duty 4 0 1 2 3", "", api.ErrRange}, step{"duty 1 4", "", api.ErrAbsent},
		step{"duty 1 1 0", "", api.ErrOrder}, step{"duty 2 1 1", "", api.ErrOrder}, step{"duty 2 0", "", api.ErrNone}, step{"duty 3 0 1", "", api.ErrNone},
		// the roll of chapter 9
		step{"duty 3 0 1 2", "0", api.OK}, step{"duty 1 0 1", "1", api.OK}, step{"duty 1 0", "2", api.OK}, step{"duty 2 0 1 2", "3", api.OK}, step{"load", "3 3 0 1", api.OK},
		step{"duty 1 3", "4", api.OK}, step{"load", "3 3 0 1", api.OK}, step{"duty 1 3", "5", api.OK},
		step{"duty 1 3", "", api.ErrCount}, step{"duty 0 9", "", api.ErrCount}, step{"load", "3 3 0 1", api.OK},
	)
	r, e := c.Roll()
	if r.Men != 4 || len(r.Notices) != 6 || r.Notices[3].Times != 2 || !slices.Equal(r.Notices[3].Men, []int{0, 1, 2}) || e != api.OK {
		t.Error(r, e)
	}
	c = with(t, "town sh", "criers 3 0 0 0")
	play(t, c, step{"duty 3 0 1 2", "0", api.OK}, step{"load", "1 3 0", api.OK}, step{"duty 1 1", "1", api.OK}, step{"load", "2 3 1", api.OK})
	play(t, with(t, "town sh"), step{"duty 1 0", "", api.ErrAbsent}, step{"duty 0 0", "", api.ErrAbsent}, step{"load", "", api.ErrAbsent})
}

func TestFinds(t *testing.T) {
	c := with(t, "town sh")
	play(t, c,
		step{"lost 1 1", "", api.ErrAbsent}, step{"found 1", "", api.ErrAbsent}, step{"hand", "", api.ErrAbsent}, step{"joins", "", api.ErrAbsent},
		step{"traits 4 1", "", api.ErrRange}, step{"traits 0 0", "", api.ErrRange}, step{"traits 0 10", "", api.ErrRange}, step{"traits 0 1 1 1 1 1 1", "", api.ErrCount},
		step{"traits 9 1 1 1 1 1 1", "", api.ErrCount}, step{"joins", "", api.ErrAbsent},
		step{"traits 3 9", "ok", api.OK}, step{"joins", "0 1 0", api.OK}, step{"hand", "", api.ErrNone}, step{"traits 0 5 3 2", "ok", api.OK},
		// the desk of chapter 6
		step{"lost 10 1 1 1", "0", api.OK}, step{"traits 0 5 3 2", "", api.ErrClash}, step{"traits 9 0", "", api.ErrClash}, step{"lost 40 1 2 x", "1", api.OK},
		step{"found 1 x x", "0", api.OK}, step{"found 1 1 x", "1", api.OK}, step{"joins", "13 1 50", api.OK},
		step{"lost 100 1 2 x", "", api.ErrRange}, step{"lost 1 6 2 x", "", api.ErrRange}, step{"lost 1 1 2", "", api.ErrCount}, step{"lost 1 1 2 x x", "", api.ErrCount}, step{"lost 100 6", "", api.ErrCount},
		step{"found 6 x x", "", api.ErrRange}, step{"found x x", "", api.ErrCount}, step{"found x x x x", "", api.ErrCount},
		step{"found 2 x 5", "2", api.OK}, step{"lost 99 2 2 2", "2", api.OK}, step{"joins", "13 1 50", api.OK},
		step{"hand", "2 50", api.OK}, step{"joins", "0 1 0", api.OK}, step{"hand", "", api.ErrNone}, step{"lost 0 2 x 5", "1", api.OK}, step{"joins", "7 1 0", api.OK}, step{"hand", "1 0", api.OK},
	)
	d, e := c.Desk()
	want := find.Desk{Weights: []int{5, 3, 2}, Lost: [][]int{{2, 2, 2}}, Rewards: []int{99}}
	if fmt.Sprint(d) != fmt.Sprint(want) || e != api.OK {
		t.Error(d, e)
	}
	// there are traits, and no things
	c = with(t, "town sh", "traits 0 1", "lost 1 1", "found 1", "hand")
	check(t, c, "traits 2 3 4", "ok", api.OK)
	if d, e := c.Desk(); fmt.Sprint(d) != fmt.Sprint(find.Desk{Weights: []int{3, 4}, Slips: 2}) || e != api.OK {
		t.Error(d, e)
	}
	// a found thing alone is a thing
	check(t, with(t, "town sh", "traits 0 1", "found 1"), "traits 0 1", "", api.ErrClash)
}

func TestMostThings(t *testing.T) {
	c := with(t, "town sh", "traits 3 9 9 9 9 9")
	for n := range 6 {
		check(t, c, "lost 99 5 5 5 5 5", fmt.Sprint(n), api.OK)
		check(t, c, "found 5 5 5 5 5", fmt.Sprint(n), api.OK)
	}
	play(t, c,
		step{"lost 0 0 0 0 0 0", "", api.ErrCount}, step{"lost 100 6 6 6 6 6", "", api.ErrCount}, step{"found 0 0 0 0 0", "", api.ErrCount}, step{"found 0", "", api.ErrCount},
		step{"joins", "270 720 594", api.OK}, step{"hand", "", api.ErrNone},
	)
}

// TestHand takes what is handed over out of the middle, as other things are numbered then.
func TestHand(t *testing.T) {
	c := with(t, "town sh", "traits 0 2 1", "lost 1 0 0", "lost 2 1 1", "lost 4 2 2", "lost 8 1 1", "found 5 5", "found 2 x", "found 1 1", "found 0 0")
	play(t, c, step{"joins", "8 2 13", api.OK}, step{"hand", "2 5", api.OK}, step{"joins", "3 2 8", api.OK}, step{"hand", "", api.ErrNone})
	d, e := c.Desk()
	if fmt.Sprint(d) != fmt.Sprint(find.Desk{Weights: []int{2, 1}, Lost: [][]int{{1, 1}, {1, 1}}, Found: [][]int{{5, 5}, {1, 1}}, Rewards: []int{2, 8}}) || e != api.OK {
		t.Error(d, e)
	}
	play(t, c, step{"found 1 x", "2", api.OK}, step{"joins", "5 2 10", api.OK}, step{"hand", "", api.ErrNone}, step{"lost 1 5 5", "2", api.OK}, step{"hand", "1 1", api.OK}, step{"lost 1 x x", "2", api.OK}, step{"found x x", "2", api.OK})
}

func TestAsking(t *testing.T) {
	c := with(t, "town hsh", "notice none a")
	for _, line := range []string{"left 0", "left 13", "holds 0 0", "holds 13 9", "mend 0 0", "mend 13 0 0", "mend 0 1"} {
		check(t, c, line, "", api.ErrNone)
		check(t, with(t, "town hsh", "stand 1"), line, "", api.ErrNone)
		check(t, with(t, "town hsh"), line, "", api.ErrNone)
	}
	c = with(t, "town hsh shs", "air 4 1", "stand 1", "air 2 1", "stand 1", "notice none a", "back 0 b", "notice none c", "link 0 2", "link 2 1")
	play(t, c,
		step{"left 0", "", api.OK}, step{"holds 12 2", "", api.OK}, step{"mend 0 0 1", "0", api.OK},
		step{"left 13", "", api.ErrRange}, step{"holds 13 3", "", api.ErrRange}, step{"holds 12 3", "", api.ErrAbsent}, step{"mend 13 9 9", "", api.ErrRange}, step{"mend 0 2 2", "", api.ErrAbsent}, step{"mend 0 1 1", "", api.ErrTwice},
	)
}

// TestLeft has a chain of houses, and cries of two chains of notices.
func TestLeft(t *testing.T) {
	c := with(t, "town hsh hsh", "air 4 2", "stand 1", "air 2 2", "stand 1", "link 0 2", "link 2 3", "link 3 1", "notice none a", "back 0 b", "notice none c", "notice 2 d")
	n, _, _ := c.News()
	if fmt.Sprint(n.Stands) != "[[0] [1]]" {
		t.Fatal(n.Stands)
	}
	play(t, c,
		step{"cry 0 1", "ok", api.OK}, step{"cry 1 0", "ok", api.OK}, step{"cry 2 0", "ok", api.OK}, step{"cry 2 1", "ok", api.OK},
		step{"left 0", "0 2 1 0 1 2", api.OK}, step{"left 1", "0 2 1 0 1 2 2 2 3 0 3 2", api.OK}, step{"left 2", "0 2 1 0 1 2 2 2 3 2", api.OK}, step{"left 3", "0 2 1 2 2 2 3 2", api.OK},
		step{"holds 0 0", "1 2", api.OK}, step{"holds 0 2", "", api.OK}, step{"holds 1 3", "0 2", api.OK}, step{"holds 3 1", "1 2", api.OK},
		step{"mend 0 0 1", "3", api.OK}, step{"mend 0 0", "", api.ErrNone}, step{"mend 3 0", "1", api.OK}, step{"mend 3 1", "1", api.OK}, step{"mend 2 1 0", "3", api.OK}, step{"mend 3 1 0", "1", api.OK},
	)
}
